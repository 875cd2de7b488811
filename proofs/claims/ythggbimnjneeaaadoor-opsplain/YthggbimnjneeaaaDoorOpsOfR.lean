/-
  The document's Of.
-/
import Derived.Test.YthggbimnjneeaaaDoorOpsSame
import Derived.Test.YthggbimnjneeaaaDoorOpsFams
import Derived.Test.YthggbimnjneeaaaDoorOrdersP
import Derived.Deep.MidRow
set_option linter.unusedVariables false
set_option maxRecDepth 100000
set_option linter.unusedSimpArgs false
namespace Go.Proofs.YthggbimnjneeaaaDoor
open Go.RowKit Opp

/-- The row of a number in a family. -/
def hitD (o : Nat) (f : Fam) : Option InfoD := if o < f.first ∨ f.first + 20 < o then none else if o - f.first < (wordsL f.names).length then some (infoD f (o - f.first)) else none
def ofD (o : Nat) : Option InfoD := allF.flatten.findSome? (hitD o)
def ofR (o : Nat) : InfoD := (ofD o).getD zeroD
def ofE (o : Nat) : Int := if (ofD o).isSome then 0 else 11
def OfPost (o : Nat) (w : World) (e : Ending) (w' : World) : Prop :=
  ∃ v, e = .returned (.tuple #[v, .int .i64 (ofE o)]) ∧ InfoV w' w.heap.size v (ofR o) ∧ Below w.heap.size w w'

theorem famAt_eq {i : Nat} (hi : i < 7) : allF[i]? = some (famAt i) := by
  unfold famAt
  rw [List.getElem?_eq_getElem (show i < allF.length from hi), Option.getD_some]
theorem ofD_none {o : Nat} (h : ∀ j, j < 7 → ∀ f ∈ famAt j, hitD o f = none) : ofD o = none := by
  unfold ofD
  rw [List.findSome?_eq_none_iff]
  intro f hf
  obtain ⟨L, hL, hf⟩ := List.mem_flatten.1 hf
  obtain ⟨j, hj⟩ := List.mem_iff_getElem?.1 hL
  have h7 : j < 7 := (List.getElem?_eq_some_iff.1 hj).1
  rw [famAt_eq h7] at hj
  injection hj with hj
  subst hj
  exact h j h7 f hf
theorem ofD_some {o i k : Nat} {f : Fam} {R : InfoD} (hi : i < 7) (hk : (famAt i)[k]? = some f) (h1 : ∀ j, j < i → ∀ f ∈ famAt j, hitD o f = none) (h2 : ∀ f ∈ (famAt i).take k, hitD o f = none) (hh : hitD o f = some R) : ofD o = some R := by
  unfold ofD
  rw [List.findSome?_eq_some_iff]
  have e : allF = allF.take i ++ famAt i :: allF.drop (i + 1) := by
    have hl : i < allF.length := hi
    have := famAt_eq hi
    rw [List.getElem?_eq_getElem hl] at this
    injection this with this
    rw [← this, ← List.drop_eq_getElem_cons hl, List.take_append_drop]
  have e2 : famAt i = (famAt i).take k ++ f :: (famAt i).drop (k + 1) := by
    have hl : k < (famAt i).length := (List.getElem?_eq_some_iff.1 hk).1
    have := hk
    rw [List.getElem?_eq_getElem hl] at this
    injection this with this
    rw [← this, ← List.drop_eq_getElem_cons hl, List.take_append_drop]
  refine ⟨(allF.take i).flatten ++ (famAt i).take k, f, (famAt i).drop (k + 1) ++ (allF.drop (i + 1)).flatten, ?_, hh, ?_⟩
  · have e3 : allF.flatten = (allF.take i).flatten ++ (famAt i ++ (allF.drop (i + 1)).flatten) := by
      rw [← List.flatten_cons, ← List.flatten_append, ← e]
    rw [e3]
    conv => lhs; rw [e2]
    simp
  · intro x hx
    rcases List.mem_append.1 hx with hx | hx
    · obtain ⟨L, hL, hx⟩ := List.mem_flatten.1 hx
      obtain ⟨j, hj⟩ := List.mem_iff_getElem?.1 hL
      have hji : j < i := by
        have := (List.getElem?_eq_some_iff.1 hj).1
        simp at this
        omega
      rw [List.getElem?_take_of_lt hji, famAt_eq (by omega)] at hj
      injection hj with hj
      subst hj
      exact h1 j hji x hx
    · exact h2 x hx
theorem mem_famAt {i k : Nat} {f : Fam} (hi : i < 7) (hk : (famAt i)[k]? = some f) : f ∈ allF.flatten :=
  List.mem_flatten.2 ⟨famAt i, List.mem_iff_getElem?.2 ⟨i, famAt_eq hi⟩, List.mem_of_getElem? hk⟩

/-- A family's cells in its list's block. -/
theorem fam_range {L : List Fam} {k : Nat} {f : Fam} (hk : L[k]? = some f) : ∀ j v, (famCells f)[j]? = some v → (L.flatMap famCells)[k * 7 + j]? = some v := by
  induction L generalizing k with
  | nil => simp at hk
  | cons x L ih =>
    intro j v hv
    have hl : (famCells x).length = 7 := rfl
    rw [List.flatMap_cons]
    cases k with
    | zero =>
      simp only [List.getElem?_cons_zero, Option.some.injEq] at hk
      subst hk
      have hj : j < 7 := (List.getElem?_eq_some_iff.1 hv).1
      rw [List.getElem?_append_left (by omega)]
      simpa using hv
    | succ k =>
      rw [List.getElem?_append_right (by omega), hl, show (k + 1) * 7 + j - 7 = k * 7 + j by omega]
      exact ih (by simpa using hk) j v hv
theorem FamBlk.range {w : World} {g : Nat} {L : List Fam} (h : FamBlk w g L) {k : Nat} {f : Fam} (hk : L[k]? = some f) : w.rangeAt g (k * 7) (famCells f) := by
  intro j v hv
  have := fam_range hk j v hv
  unfold FamBlk famsCells at h
  simp [World.cell?, h, this]
theorem infoFm : (Tryd.prog.info? 59).map (·.size) = some 7 := by kernel_rfl
theorem resultI {w : World} {g : Nat} {cs : Array Value} (h : w.heap[g]? = some (.cells cs 27 (0, 0))) (hn : cs.size = 7) {fn : Func} {p q : Tmp} (hf : fn.results = #[.cell p 27, .tmp q]) (tmps : Array Value) (hp : tmps.getD p undef = .pointer (some ⟨g, 0, none⟩)) {x : Value} (hq : tmps.getD q undef = x) :
    (results fn tmps).run Tryd.prog w = .ok (.tuple #[.agg cs, x]) w := by
  have hp' : tmps[p]?.getD undef = .pointer (some ⟨g, 0, none⟩) := by simpa using hp
  have hq' : tmps[q]?.getD undef = x := by simpa using hq
  have hi : (Tryd.prog.info? 27).map (·.size) = some cs.size := by rw [hn]; exact infoInfo
  simp [results, hf, hp', hq', asAddr, run_loadVar_row w g _ _ _ _ _ h Tryd.underlying27 rfl hi]

def ZI : Array Value := #[.int .u16 0, .string ⟨#[]⟩, .int .u8 0, .slice none 0 0, .slice none 0 0, .int .i64 0, .bool false]
theorem InfoV.aside {w : World} {b g : Nat} {v : Value} {R : InfoD} {cs : Array Value} (h : InfoV w b v R) (hg : w.heap[g]? = some (.cells cs 27 (0, 0))) {u0 u1 u2 u3 u4 u5 u6 : Value} :
    InfoV (((((((w.setCell ⟨g, 0, none⟩ u0).setCell ⟨g, 1, none⟩ u1).setCell ⟨g, 2, none⟩ u2).setCell ⟨g, 3, none⟩ u3).setCell ⟨g, 4, none⟩ u4).setCell ⟨g, 5, none⟩ u5).setCell ⟨g, 6, none⟩ u6) b v R := by
  obtain ⟨a1, c1, a2, c2, e, h1, h2⟩ := h
  exact ⟨a1, c1, a2, c2, e, OwnY.aside h1 hg, OwnY.aside h2 hg⟩
theorem InfoV.shape7 {w : World} {b : Nat} {v : Value} {R : InfoD} (h : InfoV w b v R) : ∃ s0 s1 s2 s3 s4 s5 s6, v = .agg #[s0, s1, s2, s3, s4, s5, s6] ∧ s0.oneCell' = true ∧ s1.oneCell' = true ∧ s2.oneCell' = true ∧ s3.oneCell' = true ∧ s4.oneCell' = true ∧ s5.oneCell' = true ∧ s6.oneCell' = true := by
  obtain ⟨a1, c1, a2, c2, e, _, _⟩ := h
  exact ⟨_, _, _, _, _, _, _, e, rfl, rfl, rfl, rfl, rfl, rfl, rfl⟩
theorem cell_aside {w : World} {a g k : Nat} {v : Value} (h : w.cell? ⟨a, k, none⟩ = some v) (hg : a ≠ g) {u0 u1 u2 u3 u4 u5 u6 : Value} :
    (((((((w.setCell ⟨g, 0, none⟩ u0).setCell ⟨g, 1, none⟩ u1).setCell ⟨g, 2, none⟩ u2).setCell ⟨g, 3, none⟩ u3).setCell ⟨g, 4, none⟩ u4).setCell ⟨g, 5, none⟩ u5).setCell ⟨g, 6, none⟩ u6).cell? ⟨a, k, none⟩ = some v := by
  simp only [World.cell?] at h ⊢
  rw [heap_setCell_other _ _ _ _ hg, heap_setCell_other _ _ _ _ hg, heap_setCell_other _ _ _ _ hg, heap_setCell_other _ _ _ _ hg, heap_setCell_other _ _ _ _ hg, heap_setCell_other _ _ _ _ hg, heap_setCell_other _ _ _ _ hg]
  exact h
theorem first_all : (allF.flatten.all fun f => decide (f.first + 20 < 65536)) = true := by kernel_rfl
theorem letN_all : (allF.flatten.all fun f => letB f.names && decide (f.names.length ≤ 1000)) = true := by kernel_rfl
theorem nameAt_get {f : Fam} {n : Nat} (hn : n < (wordsL f.names).length) : ((wordsL f.names).map str)[n]?.getD ⟨#[]⟩ = str (nameAt f n) := by
  unfold nameAt
  rw [List.getElem?_map, List.getElem?_eq_getElem hn]
  rfl

def OfJ (b0 g0 gf gw : Nat) (FV VW : Value) (n : Nat) (nm : ByteArray) (R : InfoD) (fc : Obj) (ws : World) (d : Nat → Bool) (vs : List Value) (w : World) : Prop :=
  (d 0 = true → vs[0]?.getD undef = FV) ∧ (d 1 = true → vs[1]?.getD undef = VW) ∧ (d 2 = true → vs[2]?.getD undef = .int .i64 (n : Int)) ∧ (d 3 = true → vs[3]?.getD undef = .pointer (some ⟨gw, n, none⟩)) ∧
  (d 4 = true → vs[4]?.getD undef = .string nm) ∧ (d 5 = true → vs[5]?.getD undef = .int .i64 (n : Int)) ∧ (d 6 = true → d 7 = false → InfoV w b0 (vs[6]?.getD undef) R) ∧ (d 8 = true → vs[7]?.getD undef = .int .i64 0) ∧
  (∃ cs, w.heap[g0]? = some (.cells cs 27 (0, 0)) ∧ cs.size = 7 ∧ (d 7 = true → InfoV w b0 (.agg cs) R)) ∧ w.heap[gf]? = some fc ∧ w.cell? ⟨gw, n, none⟩ = some (.string nm) ∧ (d 7 = true → d 6 = true) ∧ Below b0 ws w

set_option maxRecDepth 100000 in
set_option maxHeartbeats 16000000 in
theorem rOf_calls (o : Nat) (ho : o < 65536) (w : World) : Calls Tryd.prog 10 #[.int .u16 (o : Int)] w fun e w' => OfPost o w e w' := by
  obtain ⟨wa, hwa⟩ : ∃ wa, w.alloc (.cells #[.int .u16 0, .string ⟨#[]⟩, .int .u8 0, .slice none 0 0, .slice none 0 0, .int .i64 0, .bool false] 27) = wa := ⟨_, rfl⟩
  have BA : Hid (Below w.heap.size w wa) := hideT (by rw [← hwa]; exact (Below.refl _ _).alloc (Nat.le_refl _) _)
  have KA : Hid (wa.heap[w.heap.size]? = some (.cells ZI 27 (0, 0))) := hideT (by rw [← hwa]; exact heap_alloc_new w _)
  have HWA := hideT hwa
  clear hwa
  go_enter Tryd.func10, Tryd.ntmps10
  go_wp2_with fail
  rw [HWA.out]
  refine (rfamilies_calls wa).mono ?_
  rintro e w1 ⟨V, rfl, hall, hb1⟩
  have B1 := hideT (BA.out.trans (hb1.mono BA.out.size))
  have K1 := hideT ((hb1.block _ (Array.getElem?_eq_some_iff.1 KA.out).1).trans KA.out)
  have AL := hideT hall
  obtain ⟨g, hV, _⟩ := hall
  subst hV
  clear hb1 HWA KA BA
  go_wp2_with fail
  go_loopw [5] (fun x wr => ∃ i : Nat, x = .int .i64 (i : Int) ∧ i ≤ 7 ∧ (∀ j, j < i → ∀ f ∈ famAt j, hitD o f = none) ∧ Below w1.heap.size w1 wr) (fun x _ => 7 - (intOf x).toNat)
  case atStart => exact ⟨0, rfl, by omega, fun j hj => by omega, Below.refl _ _⟩
  case round =>
    obtain ⟨i, rfl, hi, hno, hbel⟩ := hrel
    have NO := hideT hno
    have HR := hideT hbel
    have A2 := hideT (AL.out.later hbel)
    have BW := hideT (B1.out.trans (hbel.mono B1.out.size))
    clear hno hbel
    by_cases c0 : i < 7
    · obtain ⟨g', hV, hcells⟩ := A2.out
      simp only [Value.slice.injEq, Option.some.injEq, Addr.mk.injEq, and_true] at hV
      subst hV
      obtain ⟨gi, hc, hfam⟩ := hcells i c0
      have HFAM := hideT hfam
      have HC := hideT hc
      have HI := hideT c0
      have LN : Hid ((famAt i).length ≤ 31) := hideT (by
        match i, c0 with
        | 0, _ => decide
        | 1, _ => decide
        | 2, _ => decide
        | 3, _ => decide
        | 4, _ => decide
        | 5, _ => decide
        | 6, _ => decide)
      clear hcells hfam A2
      have ci : (i : Int) < 7 := by omega
      clear c0
      obtain ⟨wo, hwo⟩ : ∃ x, x = wr := ⟨_, rfl⟩
      subst hwo
      go_wp2_with fail
      go_loopw [6] (fun x wq => ∃ k : Nat, x = .int .i64 (k : Int) ∧ k ≤ (famAt i).length ∧ (∀ f ∈ (famAt i).take k, hitD o f = none) ∧ Below wo.heap.size wo wq) (fun x _ => (famAt i).length - (intOf x).toNat)
      case atStart => exact ⟨0, rfl, Nat.zero_le _, fun f hf => by simp at hf, Below.refl _ _⟩
      case round =>
        obtain ⟨k, rfl, hk, hnk, hbk⟩ := hrel
        have NK := hideT hnk
        have HQ := hideT hbk
        have BQ := hideT (BW.out.trans (hbk.mono BW.out.size))
        have hcq := cell_laterF hbk HC.out
        clear hnk hbk hc
        by_cases c1 : k < (famAt i).length
        · obtain ⟨f, hf⟩ : ∃ f, (famAt i)[k]? = some f := ⟨_, List.getElem?_eq_getElem c1⟩
          have MEM := mem_famAt HI.out hf
          have f20 : f.first + 20 < 65536 := of_decide_eq_true (List.all_eq_true.1 first_all f MEM)
          have RG := hideT (show World.rangeAt _ gi (k * 7) [.int .u16 (f.first : Int), .string (str f.ahead), .string (str f.names), .string (str f.types), .int .u8 (f.imm : Int), .string (str f.bits), .bool f.plain] from (HFAM.out.later HQ.out).range hf)
          have SOME := hideT (fun R => ofD_some (R := R) HI.out hf NO.out NK.out)
          have NEXT : Hid (hitD o f = none → ∀ x ∈ (famAt i).take (k + 1), hitD o x = none) := hideT (by
            intro hn x hx
            rw [List.take_add_one, hf] at hx
            rcases List.mem_append.1 hx with hx | hx
            · exact NK.out x hx
            · simp at hx; subst hx; exact hn)
          have HK := hideT c1
          have ck : (k : Int) < ((famAt i).length : Int) := by omega
          have lnI : (famAt i).length ≤ 31 := LN.out
          have w20 : IntKind.u16.wrap ((f.first : Int) + 20) = (f.first : Int) + 20 := by show (((f.first : Int) + 20) % 65536) = _; omega
          clear c1 hk
          by_cases c2 : o < f.first
          · have hn := NEXT.out (by unfold hitD; rw [if_pos (.inl c2)])
            have HN := hideT hn
            have e1 : decide (o < f.first) = true := by simp; omega
            clear hn SOME NEXT c2
            go_wp2_with (refine wpList_load_mid rfl 59 _ rfl gi _ rfl _ _ RG.out Tryd.underlying59 rfl infoFm ?_)
            go_roundw
            case rel => exact ⟨k + 1, by go_num, HK.out, HN.out, HQ.out.alloc HQ.out.size _⟩
            case measure => have := HK.out; simp [intOf]; omega
          · by_cases c3 : f.first + 20 < o
            · have hn := NEXT.out (by unfold hitD; rw [if_pos (.inr c3)])
              have HN := hideT hn
              have e1 : decide (o < f.first) = false := by simp; omega
              have e2 : decide ((f.first : Int) + 20 < (o : Int)) = true := by simp; omega
              clear hn SOME NEXT c2 c3
              go_wp2_with (refine wpList_load_mid rfl 59 _ rfl gi _ rfl _ _ RG.out Tryd.underlying59 rfl infoFm ?_)
              go_roundw
              case rel => exact ⟨k + 1, by go_num, HK.out, HN.out, HQ.out.alloc HQ.out.size _⟩
              case measure => have := HK.out; simp [intOf]; omega
            · have e1 : decide (o < f.first) = false := by simp; omega
              have e2 : decide ((f.first : Int) + 20 < (o : Int)) = false := by simp; omega
              have hlet := List.all_eq_true.1 letN_all f MEM
              simp only [Bool.and_eq_true, decide_eq_true_eq] at hlet
              have CW := hideT (fun V => rwords_calls (str f.names) (by rw [str_size]; omega) V)
              have EW := hideT (words_str (letB_let hlet.1))
              obtain ⟨m, hm⟩ : ∃ m, o - f.first = m := ⟨_, rfl⟩
              have wm : IntKind.u16.wrap ((o : Int) - (f.first : Int)) = (m : Int) := by show (((o : Int) - (f.first : Int)) % 65536) = _; omega
              have wm2 : wrap64 (m : Int) = (m : Int) := by unfold wrap64; omega
              obtain ⟨wb, hwb⟩ : ∃ wb, wr.alloc (.cells #[.int .u16 (f.first : Int), .string (str f.ahead), .string (str f.names), .string (str f.types), .int .u8 (f.imm : Int), .string (str f.bits), .bool f.plain] 59) = wb := ⟨_, rfl⟩
              have KF : Hid (wb.heap[wr.heap.size]? = some (.cells #[.int .u16 (f.first : Int), .string (str f.ahead), .string (str f.names), .string (str f.types), .int .u8 (f.imm : Int), .string (str f.bits), .bool f.plain] 59 (0, 0))) := hideT (by rw [← hwb]; exact heap_alloc_new wr _)
              have BB : Hid (Below wo.heap.size wo wb) := hideT (by rw [← hwb]; exact HQ.out.alloc HQ.out.size _)
              have HWB := hideT hwb
              have MM := hideT MEM
              have HIT : Hid (hitD o f = if m < (wordsL f.names).length then some (infoD f m) else none) := hideT (by unfold hitD; rw [if_neg (by omega), hm])
              have FV : Hid (famV f = .agg #[.int .u16 (f.first : Int), .string (str f.ahead), .string (str f.names), .string (str f.types), .int .u8 (f.imm : Int), .string (str f.bits), .bool f.plain]) := hideT rfl
              clear hwb hlet MEM hm c2 c3
              go_wp2_with (refine wpList_load_mid rfl 59 _ rfl gi _ rfl _ _ RG.out Tryd.underlying59 rfl infoFm ?_)
              rw [HWB.out]
              refine (CW.out wb).mono ?_
              rintro e w2 ⟨vw, rfl, hown, hb2⟩
              rw [EW.out] at hown
              have B2 : Hid (Below wo.heap.size wo w2) := hideT (BB.out.trans (hb2.mono BB.out.size))
              have KF2 := hideT ((hb2.block _ (Array.getElem?_eq_some_iff.1 KF.out).1).trans KF.out)
              have zf : w2.cell? ⟨wr.heap.size, 0, none⟩ = some (.int .u16 (f.first : Int)) := by simp [World.cell?, KF2.out]
              have HW := hideT hown
              obtain ⟨aw, cw, hvw⟩ := OwnS.shape hown
              rw [List.length_map] at hvw
              subst hvw
              clear hown hb2 CW EW KF HWB RG
              obtain ⟨q, hq⟩ : ∃ q, (wordsL f.names).length = q := ⟨_, rfl⟩
              rw [hq] at HIT
              rw [hq]
              have HQL := hideT hq
              clear hq
              by_cases c4 : m < q
              · have INF := (fun V => (rinfo_calls MM.out (by rw [HQL.out]; exact c4) V).mono fun e w' h => InfoPost.info h)
                have DONE := hideT (SOME.out (infoD f m) (by rw [HIT.out, if_pos c4]))
                obtain ⟨gw, cw', hvw, hcw⟩ := HW.out.cellAt (k := m) (by rw [List.length_map, HQL.out]; exact c4)
                simp only [Value.slice.injEq] at hvw
                obtain ⟨rfl, _, rfl⟩ := hvw
                rw [nameAt_get (by rw [HQL.out]; exact c4)] at hcw
                have HCW := hideT hcw
                have e3 : decide ((m : Int) < (q : Int)) = true := by simp; omega
                have e3' : decide (m < q) = true := by simp; omega
                have BX := hideT (BW.out.trans (B2.out.mono BW.out.size))
                have KO := hideT ((HR.out.block _ (Array.getElem?_eq_some_iff.1 K1.out).1).trans K1.out)
                have K2 := hideT ((B2.out.block _ (Array.getElem?_eq_some_iff.1 KO.out).1).trans KO.out)
                have LTW : Hid (w.heap.size < wr.heap.size) := hideT (by
                  have h1 := (Array.getElem?_eq_some_iff.1 KO.out).1
                  have h2 := HQ.out.size
                  omega)
                have LTG : Hid (w.heap.size ≠ gw) := hideT (by
                  have h1 := (HW.out.lt gw rfl).1
                  have h2 := BB.out.size
                  have h3 := (Array.getElem?_eq_some_iff.1 KO.out).1
                  omega)
                rw [FV.out] at INF
                have INF := hideT INF
                have C4 := hideT c4
                clear SOME NEXT HIT c4 hcw hcq
                dsimp only
                go_wp2_with fail
                rw [wm2]
                clear zf e3 e3'
                have e4 : (m : Int) < (q : Int) := by have := C4.out; omega
                refine wp_region_par [56, 57, 58, 59, 60, 61, 62, 3] (OfJ w.heap.size w.heap.size wr.heap.size gw (.agg #[.int .u16 (f.first : Int), .string (str f.ahead), .string (str f.names), .string (str f.types), .int .u8 (f.imm : Int), .string (str f.bits), .bool f.plain]) (.slice (some ⟨gw, 0, none⟩) q cw) m (str (nameAt f m)) (infoD f m) (.cells #[.int .u16 (f.first : Int), .string (str f.ahead), .string (str f.names), .string (str f.types), .int .u8 (f.imm : Int), .string (str f.bits), .bool f.plain] 59 (0, 0)) w2) (by kernel_rfl) (by kernel_rfl) ?_ ?_ ?_
                · intro vs
                  exact ⟨(fun h => by cases h), (fun h => by cases h), (fun h => by cases h), (fun h => by cases h), (fun h => by cases h), (fun h => by cases h), (fun h => by cases h), (fun h => by cases h), ⟨_, K2.out, rfl, fun h => by cases h⟩, KF2.out, HCW.out, (fun h => by cases h), (Below.refl _ _).drew⟩
                · intro d vs wz hd hl hJ
                  match vs, hl with
                  | [x0, x1, x2, x3, x4, x5, x6, x7], _ =>
                  obtain ⟨j0, j1, j2, j3, j4, j5, j6, j8, jz, jf, jc, p7, jb⟩ := hJ
                  simp only [List.getElem?_cons_zero, List.getElem?_cons_succ, Option.some.injEq, Option.getD_some] at j0 j1 j2 j3 j4 j5 j6 j8
                  obtain ⟨cs, hz, hn, hI⟩ := jz
                  have hI := hI (hd 7 (by decide))
                  obtain rfl := j8 (hd 8 (by decide))
                  have HZ := hideT hz
                  have HN7 := hideT hn
                  have HI7 := hideT hI
                  have BZ := hideT (BX.out.trans jb)
                  clear hz hn hI jb jf jc p7 j0 j1 j2 j3 j4 j5 j6 j8 hd hl
                  simp only [putL, Act.put, List.setIfInBounds_toArray, List.set_cons_succ, List.set_cons_zero]
                  go_wp2_with fail
                  refine bodyPost_ret (v := .tuple #[.agg cs, .int .i64 0]) (resultI HZ.out HN7.out (by rfl) _ rfl rfl) rfl ?_
                  exact ⟨_, by unfold ofE; rw [DONE.out]; rfl, by unfold ofR; rw [DONE.out]; exact HI7.out, BZ.out⟩
                · intro ii oo hoo d vs wz hl hJ hii hw
                  match vs, hl with
                  | [x0, x1, x2, x3, x4, x5, x6, x7], _ =>
                  have hin : ii < 9 := (List.getElem?_eq_some_iff.1 hoo).1
                  obtain ⟨j0, j1, j2, j3, j4, j5, j6, j8, jz, jf, jc, p7, jb⟩ := hJ
                  simp only [List.getElem?_cons_zero, List.getElem?_cons_succ, Option.some.injEq, Option.getD_some] at j0 j1 j2 j3 j4 j5 j6 j8 jz
                  rcases (show ii = 0 ∨ ii = 1 ∨ ii = 2 ∨ ii = 3 ∨ ii = 4 ∨ ii = 5 ∨ ii = 6 ∨ ii = 7 ∨ ii = 8 by omega) with rfl | rfl | rfl | rfl | rfl | rfl | rfl | rfl | rfl
                  · simp only [List.getElem?_cons_zero, List.getElem?_cons_succ, Option.some.injEq] at hoo
                    subst hoo
                    simp only [putL, Act.put, List.setIfInBounds_toArray, List.set_cons_succ, List.set_cons_zero]
                    go_wp2_with (refine wpList_load_row rfl 59 _ rfl _ rfl _ _ _ _ jf Tryd.underlying59 rfl infoFm ?_)
                    exact ⟨rfl, [_, x1, x2, x3, x4, x5, x6, x7], rfl, (by simp only [putL, Act.put, List.setIfInBounds_toArray, List.set_cons_succ, List.set_cons_zero]), (fun _ => rfl), j1, j2, j3, j4, j5, j6, j8, jz, jf, jc, p7, jb⟩
                  · simp only [List.getElem?_cons_zero, List.getElem?_cons_succ, Option.some.injEq] at hoo
                    subst hoo
                    simp only [putL, Act.put, List.setIfInBounds_toArray, List.set_cons_succ, List.set_cons_zero]
                    go_wp2
                    exact ⟨rfl, [x0, _, x2, x3, x4, x5, x6, x7], rfl, (by simp only [putL, Act.put, List.setIfInBounds_toArray, List.set_cons_succ, List.set_cons_zero]), j0, (fun _ => rfl), j2, j3, j4, j5, j6, j8, jz, jf, jc, p7, jb⟩
                  · simp only [List.getElem?_cons_zero, List.getElem?_cons_succ, Option.some.injEq] at hoo
                    subst hoo
                    simp only [putL, Act.put, List.setIfInBounds_toArray, List.set_cons_succ, List.set_cons_zero]
                    go_wp2
                    exact ⟨rfl, [x0, x1, _, x3, x4, x5, x6, x7], rfl, (by simp only [putL, Act.put, List.setIfInBounds_toArray, List.set_cons_succ, List.set_cons_zero]), j0, j1, (fun _ => rfl), j3, j4, j5, j6, j8, jz, jf, jc, p7, jb⟩
                  · simp only [List.getElem?_cons_zero, List.getElem?_cons_succ, Option.some.injEq] at hoo
                    subst hoo
                    have hd1 : d 1 = true := List.all_eq_true.1 hw 1 (by decide)
                    have hd2 : d 2 = true := List.all_eq_true.1 hw 2 (by decide)
                    obtain rfl := j1 hd1
                    obtain rfl := j2 hd2
                    simp only [putL, Act.put, List.setIfInBounds_toArray, List.set_cons_succ, List.set_cons_zero]
                    go_wp2
                    exact ⟨rfl, [x0, _, _, _, x4, x5, x6, x7], rfl, (by simp only [putL, Act.put, List.setIfInBounds_toArray, List.set_cons_succ, List.set_cons_zero]), j0, (fun _ => rfl), (fun _ => rfl), (fun _ => rfl), j4, j5, j6, j8, jz, jf, jc, p7, jb⟩
                  · simp only [List.getElem?_cons_zero, List.getElem?_cons_succ, Option.some.injEq] at hoo
                    subst hoo
                    have hd3 : d 3 = true := List.all_eq_true.1 hw 3 (by decide)
                    obtain rfl := j3 hd3
                    have hc := jc
                    simp only [putL, Act.put, List.setIfInBounds_toArray, List.set_cons_succ, List.set_cons_zero] at hc ⊢
                    go_wp2
                    exact ⟨rfl, [x0, x1, x2, _, _, x5, x6, x7], rfl, (by simp only [putL, Act.put, List.setIfInBounds_toArray, List.set_cons_succ, List.set_cons_zero]), j0, j1, j2, (fun _ => rfl), (fun _ => rfl), j5, j6, j8, jz, jf, jc, p7, jb⟩
                  · simp only [List.getElem?_cons_zero, List.getElem?_cons_succ, Option.some.injEq] at hoo
                    subst hoo
                    simp only [putL, Act.put, List.setIfInBounds_toArray, List.set_cons_succ, List.set_cons_zero]
                    go_wp2
                    exact ⟨rfl, [x0, x1, x2, x3, x4, _, x6, x7], rfl, (by simp only [putL, Act.put, List.setIfInBounds_toArray, List.set_cons_succ, List.set_cons_zero]), j0, j1, j2, j3, j4, (fun _ => rfl), j6, j8, jz, jf, jc, p7, jb⟩
                  · simp only [List.getElem?_cons_zero, List.getElem?_cons_succ, Option.some.injEq] at hoo
                    subst hoo
                    have hd0 : d 0 = true := List.all_eq_true.1 hw 0 (by decide)
                    have hd4 : d 4 = true := List.all_eq_true.1 hw 4 (by decide)
                    have hd5 : d 5 = true := List.all_eq_true.1 hw 5 (by decide)
                    obtain rfl := j0 hd0
                    obtain rfl := j4 hd4
                    obtain rfl := j5 hd5
                    have CC := hideT (INF.out wz)
                    have hbz : Hid (w.heap.size ≤ wz.heap.size) := hideT (Nat.le_trans BX.out.size jb.size)
                    simp only [putL, Act.put, List.setIfInBounds_toArray, List.set_cons_succ, List.set_cons_zero]
                    go_wp2_with ((with_reducible refine CC.out.mono ?_); rintro e w3 ⟨z, rfl, hinf, hb⟩)
                    exact ⟨rfl, [_, x1, x2, x3, _, _, z, x7], rfl, (by simp only [putL, Act.put, List.setIfInBounds_toArray, List.set_cons_succ, List.set_cons_zero]), (fun _ => rfl), j1, j2, j3, (fun _ => rfl), (fun _ => rfl), (fun _ _ => InfoV.mono hinf hbz.out), j8, (let ⟨cs, h1, h2, h3⟩ := jz; ⟨cs, (hb.block _ (Array.getElem?_eq_some_iff.1 h1).1).trans h1, h2, fun h => (h3 h).later hb⟩), ((hb.block _ (Array.getElem?_eq_some_iff.1 jf).1).trans jf), (cell_laterF hb jc), (fun _ => rfl), (jb.trans (hb.mono hbz.out))⟩
                  · simp only [List.getElem?_cons_zero, List.getElem?_cons_succ, Option.some.injEq] at hoo
                    subst hoo
                    have hd6 : d 6 = true := List.all_eq_true.1 hw 6 (by decide)
                    have O6 := j6 hd6 hii
                    obtain ⟨a1, c1, a2, c2, e6, h1, h2⟩ := id O6
                    subst e6
                    obtain ⟨cs, hz, hn, _⟩ := jz
                    obtain ⟨s0, s1, s2, s3, s4, s5, s6, rfl⟩ : ∃ s0 s1 s2 s3 s4 s5 s6, cs = #[s0, s1, s2, s3, s4, s5, s6] := by
                      obtain ⟨l⟩ := cs
                      match l, hn with
                      | [y0, y1, y2, y3, y4, y5, y6], _ => exact ⟨y0, y1, y2, y3, y4, y5, y6, rfl⟩
                    have k0 : wz.cell? ⟨w.heap.size, 0, none⟩ = some s0 := by simp [World.cell?, hz]
                    have f0 : wz.frozen? ⟨w.heap.size, 0, none⟩ = false := frozen_of_row wz _ _ _ _ hz
                    have k1 : wz.cell? ⟨w.heap.size, 1, none⟩ = some s1 := by simp [World.cell?, hz]
                    have f1 : wz.frozen? ⟨w.heap.size, 1, none⟩ = false := frozen_of_row wz _ _ _ _ hz
                    have k2 : wz.cell? ⟨w.heap.size, 2, none⟩ = some s2 := by simp [World.cell?, hz]
                    have f2 : wz.frozen? ⟨w.heap.size, 2, none⟩ = false := frozen_of_row wz _ _ _ _ hz
                    have k3 : wz.cell? ⟨w.heap.size, 3, none⟩ = some s3 := by simp [World.cell?, hz]
                    have f3 : wz.frozen? ⟨w.heap.size, 3, none⟩ = false := frozen_of_row wz _ _ _ _ hz
                    have k4 : wz.cell? ⟨w.heap.size, 4, none⟩ = some s4 := by simp [World.cell?, hz]
                    have f4 : wz.frozen? ⟨w.heap.size, 4, none⟩ = false := frozen_of_row wz _ _ _ _ hz
                    have k5 : wz.cell? ⟨w.heap.size, 5, none⟩ = some s5 := by simp [World.cell?, hz]
                    have f5 : wz.frozen? ⟨w.heap.size, 5, none⟩ = false := frozen_of_row wz _ _ _ _ hz
                    have k6 : wz.cell? ⟨w.heap.size, 6, none⟩ = some s6 := by simp [World.cell?, hz]
                    have f6 : wz.frozen? ⟨w.heap.size, 6, none⟩ = false := frozen_of_row wz _ _ _ _ hz
                    have O6 := hideT O6
                    have HZ := hideT hz
                    clear h1 h2 hz
                    simp only [putL, Act.put, List.setIfInBounds_toArray, List.set_cons_succ, List.set_cons_zero]
                    go_wp2
                    exact ⟨rfl, [x0, x1, x2, x3, x4, x5, .agg #[.int .u16 ((infoD f m).op : Int), .string (str (infoD f m).name), .int .u8 ((infoD f m).imm : Int), .slice a1 (infoD f m).fr.length c1, .slice a2 (infoD f m).to.length c2, .int .i64 ((infoD f m).bits : Int), .bool (infoD f m).plain], x7], rfl, (by simp only [putL, Act.put, List.setIfInBounds_toArray, List.set_cons_succ, List.set_cons_zero]), j0, j1, j2, j3, j4, j5, (fun _ h => absurd h (by simp [upd])), j8, ⟨_, (heap_setCell_same _ _ 6 _ _ _ (heap_setCell_same _ _ 5 _ _ _ (heap_setCell_same _ _ 4 _ _ _ (heap_setCell_same _ _ 3 _ _ _ (heap_setCell_same _ _ 2 _ _ _ (heap_setCell_same _ _ 1 _ _ _ (heap_setCell_same _ _ 0 _ _ _ HZ.out))))))), rfl, fun _ => InfoV.aside O6.out HZ.out⟩, (fam_aside jf (Nat.ne_of_gt LTW.out)), (cell_aside jc (Ne.symm LTG.out)), (fun _ => hd6), (((((((jb.setCell (Nat.le_refl _) _).setCell (Nat.le_refl _) _).setCell (Nat.le_refl _) _).setCell (Nat.le_refl _) _).setCell (Nat.le_refl _) _).setCell (Nat.le_refl _) _).setCell (Nat.le_refl _) _)⟩
                  · simp only [List.getElem?_cons_zero, List.getElem?_cons_succ, Option.some.injEq] at hoo
                    subst hoo
                    simp only [putL, Act.put, List.setIfInBounds_toArray, List.set_cons_succ, List.set_cons_zero]
                    go_wp2
                    exact ⟨rfl, [x0, x1, x2, x3, x4, x5, x6, _], rfl, (by simp only [putL, Act.put, List.setIfInBounds_toArray, List.set_cons_succ, List.set_cons_zero]), j0, j1, j2, j3, j4, j5, j6, (fun _ => rfl), jz, jf, jc, p7, jb⟩
              · have hn := NEXT.out (by rw [HIT.out, if_neg c4])
                have HN := hideT hn
                have e3 : decide ((m : Int) < (q : Int)) = false := by simp; omega
                have e3' : decide (m < q) = false := by simp; omega
                clear hn SOME NEXT c4 HIT hcq
                go_wp2_with fail
                go_roundw
                case rel => exact ⟨k + 1, by go_num, HK.out, HN.out, B2.out⟩
                case measure => have := HK.out; simp [intOf]; omega
        · have hkk : k = (famAt i).length := by omega
          have N2 := hideT (show ∀ j, j < i + 1 → ∀ f ∈ famAt j, hitD o f = none from fun j hj f hf => by
            by_cases e : j = i
            · subst e
              refine NK.out f ?_
              rw [hkk, List.take_length]
              exact hf
            · exact NO.out j (by omega) f hf)
          have ck : ¬ (k : Int) < ((famAt i).length : Int) := by omega
          have HIi := HI.out
          clear c1 hk
          go_wp2_with fail
          go_roundw
          case rel => exact ⟨i + 1, by go_num, by omega, N2.out, HR.out.trans (HQ.out.mono HR.out.size)⟩
          case measure => simp [intOf]; omega
    · have i7 : i = 7 := by omega
      have E := hideT (ofD_none (o := o) (fun j hj => NO.out j (by omega)))
      subst i7
      have K7 := hideT ((HR.out.block _ (Array.getElem?_eq_some_iff.1 K1.out).1).trans K1.out)
      have z0 : wr.cell? ⟨w.heap.size, 0, none⟩ = some (.int .u16 0) := by simp [World.cell?, K7.out, ZI]
      have z1 : wr.cell? ⟨w.heap.size, 1, none⟩ = some (.string ⟨#[]⟩) := by simp [World.cell?, K7.out, ZI]
      have z2 : wr.cell? ⟨w.heap.size, 2, none⟩ = some (.int .u8 0) := by simp [World.cell?, K7.out, ZI]
      have z3 : wr.cell? ⟨w.heap.size, 3, none⟩ = some (.slice none 0 0) := by simp [World.cell?, K7.out, ZI]
      have z4 : wr.cell? ⟨w.heap.size, 4, none⟩ = some (.slice none 0 0) := by simp [World.cell?, K7.out, ZI]
      have z5 : wr.cell? ⟨w.heap.size, 5, none⟩ = some (.int .i64 0) := by simp [World.cell?, K7.out, ZI]
      have z6 : wr.cell? ⟨w.heap.size, 6, none⟩ = some (.bool false) := by simp [World.cell?, K7.out, ZI]
      have f0 : wr.frozen? ⟨w.heap.size, 0, none⟩ = false := frozen_of_row wr _ _ _ _ K7.out
      have f1 : wr.frozen? ⟨w.heap.size, 1, none⟩ = false := frozen_of_row wr _ _ _ _ K7.out
      have f2 : wr.frozen? ⟨w.heap.size, 2, none⟩ = false := frozen_of_row wr _ _ _ _ K7.out
      have f3 : wr.frozen? ⟨w.heap.size, 3, none⟩ = false := frozen_of_row wr _ _ _ _ K7.out
      have f4 : wr.frozen? ⟨w.heap.size, 4, none⟩ = false := frozen_of_row wr _ _ _ _ K7.out
      have f5 : wr.frozen? ⟨w.heap.size, 5, none⟩ = false := frozen_of_row wr _ _ _ _ K7.out
      have f6 : wr.frozen? ⟨w.heap.size, 6, none⟩ = false := frozen_of_row wr _ _ _ _ K7.out
      have KS := hideT (heap_setCell_same _ _ 6 _ _ (.bool false) (heap_setCell_same _ _ 5 _ _ (.int .i64 0) (heap_setCell_same _ _ 4 _ _ (.slice none 0 0) (heap_setCell_same _ _ 3 _ _ (.slice none 0 0) (heap_setCell_same _ _ 2 _ _ (.int .u8 0) (heap_setCell_same _ _ 1 _ _ (.string ⟨#[]⟩) (heap_setCell_same _ _ 0 _ _ (.int .u16 0) K7.out)))))))
      clear NO AL A2 c0
      go_wp2_with fail
      refine bodyPost_ret (v := .tuple #[.agg ZI, .int .i64 11]) (resultI KS.out rfl (by rfl) _ rfl rfl) rfl ?_
      refine ⟨_, by unfold ofE; rw [E.out]; rfl, by unfold ofR; rw [E.out]; exact InfoV.zero _ _, ?_⟩
      exact ((((((BW.out.setCell (by simp) _).setCell (by simp) _).setCell (by simp) _).setCell (by simp) _).setCell (by simp) _).setCell (by simp) _).setCell (by simp) _
end Go.Proofs.YthggbimnjneeaaaDoor
