/-
  The document's Table (its numbers and names), Named (genopstab.py wrote it).
-/
import Derived.Test.YthggbimnjneeaaaDoorOpsAsk
import Derived.Test.YthggbimnjneeaaaDoorOpsLaw1
set_option linter.unusedVariables false
set_option maxRecDepth 100000
set_option linter.unusedSimpArgs false
namespace Go.Proofs.YthggbimnjneeaaaDoor
open Go.RowKit Opp

theorem infoIn : (Tryd.prog.info? 27).map (fun i => (i.zero, i.size, i.bytes)) = some (some (.agg #[.int .u16 0, .string ⟨#[]⟩, .int .u8 0, .slice none 0 0, .slice none 0 0, .int .i64 0, .bool false]), 7, 96) := by kernel_rfl
theorem ownsRow_mono {w : World} {b b' e size : Nat} {v : Value} {n : Nat} {xs : List Value} (h : w.ownsRow b e size v n xs) (hb : b' ≤ b) : w.ownsRow b' e size v n xs := by
  obtain ⟨h1, h2 | ⟨g, cap, cur, e, hg, h3⟩⟩ := h
  · exact ⟨h1, .inl h2⟩
  · exact ⟨h1, .inr ⟨g, cap, cur, e, Nat.le_trans hb hg, h3⟩⟩
/-- A row of rows: the numbers and the names of these. -/
def TabRow (w : World) (b : Nat) (v : Value) (L : List InfoD) : Prop :=
  ∃ xs : List Value, w.ownsRow b 27 7 v L.length xs ∧ ∀ (i : Nat) (R : InfoD), L[i]? = some R → xs[i * 7]? = some (.int .u16 (R.op : Int)) ∧ xs[i * 7 + 1]? = some (.string (str R.name))
theorem TabRow.nil (w : World) (b : Nat) : TabRow w b (.slice none 0 0) [] := ⟨[], World.ownsRow_nil _ _ _ _, fun i R h => by simp at h⟩
theorem ownsRow_later {w w' : World} {b e size : Nat} {v : Value} {n : Nat} {xs : List Value} (h : w.ownsRow b e size v n xs) (hb : Below w.heap.size w w') : w'.ownsRow b e size v n xs := by
  obtain ⟨h1, h2 | ⟨g, cap, cur, e, hg, hblk, h3⟩⟩ := h
  · exact ⟨h1, .inl h2⟩
  · exact ⟨h1, .inr ⟨g, cap, cur, e, hg, (hb.block g (Array.getElem?_eq_some_iff.1 hblk).1).trans hblk, h3⟩⟩
theorem TabRow.later {w w' : World} {b : Nat} {v : Value} {L : List InfoD} (h : TabRow w b v L) (hb : Below w.heap.size w w') : TabRow w' b v L := by
  obtain ⟨xs, h1, h2⟩ := h
  exact ⟨xs, ownsRow_later h1 hb, h2⟩
theorem TabRow.mono {w : World} {b b' : Nat} {v : Value} {L : List InfoD} (h : TabRow w b v L) (hb : b' ≤ b) : TabRow w b' v L := by
  obtain ⟨xs, h1, h2⟩ := h
  exact ⟨xs, ownsRow_mono h1 hb, h2⟩
theorem TabRow.shape {w : World} {b : Nat} {v : Value} {L : List InfoD} (h : TabRow w b v L) : ∃ a c, v = .slice a L.length c := by
  obtain ⟨xs, ⟨_, ⟨rfl, h0⟩ | ⟨g, cap, cur, rfl, _⟩⟩, _⟩ := h
  · exact ⟨none, 0, by rw [h0]⟩
  · exact ⟨_, _, rfl⟩
/-- Rows of unlike types lie in unlike blocks: the one stays while the other one grows. -/
theorem kept_tag {w w' : World} {b b' e e' size size' : Nat} {v v' : Value} {n n' : Nat} {xs ys : List Value} (h : w.ownsRow b e size v n xs) (g : w.ownsRow b' e' size' v' n' ys) (he : e ≠ e') (hg : w.grownBy w' v'.ownBlock) : w'.ownsRow b e size v n xs := by
  refine World.ownsRow.kept h hg ?_
  obtain ⟨_, ⟨rfl, _⟩ | ⟨k, cap, cur, rfl, _, hblk, _⟩⟩ := h
  · exact .inl rfl
  · right
    obtain ⟨_, ⟨rfl, _⟩ | ⟨k', cap', cur', rfl, _, hblk', _⟩⟩ := g
    · simp [Value.ownBlock]
    · intro hx
      simp only [Value.ownBlock, Option.some.injEq] at hx
      subst hx
      rw [hblk] at hblk'
      simp only [Option.some.injEq, Obj.cells.injEq] at hblk'
      exact he hblk'.2.1
theorem OwnS.mono0 {w : World} {b : Nat} {v : Value} {l : List ByteArray} (h : OwnS w b v l) : OwnS w 0 v l := ownsRow_mono h (Nat.zero_le _)
theorem block_tag {w w' : World} {b' e' size' k : Nat} {v' : Value} {n' : Nat} {ys : List Value} {cs : Array Value} {t : TypeId} {fr : Nat × Nat} (h : w.heap[k]? = some (.cells cs t fr)) (g : w.ownsRow b' e' size' v' n' ys) (he : t ≠ e') (hg : w.grownBy w' v'.ownBlock) : w'.heap[k]? = some (.cells cs t fr) := by
  refine (hg.block k (Array.getElem?_eq_some_iff.1 h).1 ?_).trans h
  obtain ⟨_, ⟨rfl, _⟩ | ⟨k', cap', cur', rfl, _, hblk', _⟩⟩ := g
  · simp [Value.ownBlock]
  · intro hx
    simp only [Value.ownBlock, Option.some.injEq] at hx
    subst hx
    rw [h] at hblk'
    simp only [Option.some.injEq, Obj.cells.injEq] at hblk'
    exact he hblk'.2.1

def upTo (i k : Nat) : List InfoD := (allF.take i).flatten.flatMap rowsF ++ ((famAt i).take k).flatMap rowsF
theorem upTo_zero : upTo 0 0 = [] := rfl
theorem upTo_next {i : Nat} (hi : i < 7) : upTo i (famAt i).length = upTo (i + 1) 0 := by
  have hl : i < allF.length := hi
  have h := famAt_eq hi
  unfold upTo
  rw [List.take_length, List.take_zero, List.take_add_one, h]
  simp
theorem upTo_all : upTo 7 0 = rowsD := by
  unfold upTo rowsD
  simp [show allF.take 7 = allF from rfl]
theorem upTo_fam {i k : Nat} {f : Fam} (hk : (famAt i)[k]? = some f) : upTo i (k + 1) = upTo i k ++ rowsF f := by
  unfold upTo
  rw [List.take_add_one, hk]
  simp
theorem upTo_len {i k : Nat} {f : Fam} (hi : i < 7) (hk : (famAt i)[k]? = some f) : (upTo i k).length + (wordsL f.names).length ≤ 435 := by
  have hl : i < allF.length := hi
  have e : allF = allF.take i ++ famAt i :: allF.drop (i + 1) := by
    have := famAt_eq hi
    rw [List.getElem?_eq_getElem hl] at this
    injection this with this
    rw [← this, ← List.drop_eq_getElem_cons hl, List.take_append_drop]
  have e2 : famAt i = (famAt i).take k ++ f :: (famAt i).drop (k + 1) := by
    have hl : k < (famAt i).length := (List.getElem?_eq_some_iff.1 hk).1
    have := hk
    rw [List.getElem?_eq_getElem hl] at this
    injection this with this
    rw [← this, ← List.drop_eq_getElem_cons hl, List.take_append_drop]
  have h : rowsD = upTo i k ++ (rowsF f ++ (((famAt i).drop (k + 1)).flatMap rowsF ++ (allF.drop (i + 1)).flatten.flatMap rowsF)) := by
    have e3 : allF.flatten = (allF.take i).flatten ++ (famAt i ++ (allF.drop (i + 1)).flatten) := by
      rw [← List.flatten_cons, ← List.flatten_append, ← e]
    unfold rowsD upTo
    rw [e3]
    conv => lhs; rw [e2]
    simp
  have hlen := rows_len
  rw [h] at hlen
  have hq : (rowsF f).length = (wordsL f.names).length := by simp [rowsF]
  simp only [List.length_append] at hlen
  omega
theorem part_next (f : Fam) (n : Nat) : (List.range (n + 1)).map (infoD f) = (List.range n).map (infoD f) ++ [infoD f n] := by
  rw [List.range_succ]
  simp
theorem TabRow.snoc {w w' : World} {b : Nat} {v v' : Value} {L : List InfoD} {R : InfoD} {xs cs : List Value} (hx : ∀ (i : Nat) (R : InfoD), L[i]? = some R → xs[i * 7]? = some (.int .u16 (R.op : Int)) ∧ xs[i * 7 + 1]? = some (.string (str R.name)))
    (hl : xs.length = L.length * 7) (h : w'.ownsRow b 27 7 v' (L.length + 1) (xs ++ cs)) (h0 : cs[0]? = some (.int .u16 (R.op : Int))) (h1 : cs[1]? = some (.string (str R.name))) : TabRow w' b v' (L ++ [R]) := by
  refine ⟨xs ++ cs, by rw [List.length_append]; exact h, fun i S hS => ?_⟩
  by_cases hi : i < L.length
  · rw [List.getElem?_append_left hi] at hS
    obtain ⟨a, b⟩ := hx i S hS
    rw [List.getElem?_append_left (by omega), List.getElem?_append_left (by omega)]
    exact ⟨a, b⟩
  · rw [List.getElem?_append_right (by omega)] at hS
    have hi0 : i = L.length := by
      have := (List.getElem?_eq_some_iff.1 hS).1
      simp at this
      omega
    subst hi0
    simp at hS
    subst hS
    rw [List.getElem?_append_right (by omega), List.getElem?_append_right (by omega), show L.length * 7 - xs.length = 0 by omega, show L.length * 7 + 1 - xs.length = 1 by omega]
    exact ⟨h0, h1⟩

/-- The block of one row that was built. -/
def OneRow (w : World) (v : Value) (R : InfoD) : Prop :=
  ∃ g c2 c3 c4 c5 c6, v = .slice (some ⟨g, 0, none⟩) 1 1 ∧ w.heap[g]? = some (.cells #[.int .u16 (R.op : Int), .string (str R.name), c2, c3, c4, c5, c6] 27 (0, 0)) ∧ c2.oneCell' = true ∧ c3.oneCell' = true ∧ c4.oneCell' = true ∧ c5.oneCell' = true ∧ c6.oneCell' = true
theorem OneRow.later {w w' : World} {v : Value} {R : InfoD} (h : OneRow w v R) (hb : Below w.heap.size w w') : OneRow w' v R := by
  obtain ⟨g, c2, c3, c4, c5, c6, e, hblk, h⟩ := h
  exact ⟨g, c2, c3, c4, c5, c6, e, (hb.block g (Array.getElem?_eq_some_iff.1 hblk).1).trans hblk, h⟩

/-- The same, what holds at first said of the frame as it is. -/
theorem wp_region_par0 {P : Program} {id : Nat} {l : List Oper} {Q : Exit → Act → World → Prop} {a : Act} {w : World} (slots : List Tmp) (J : (Nat → Bool) → List Value → World → Prop)
    (hm : P.follows .mixedOrders = true) (hback : backB l = true)
    (h0 : J (fun _ => false) (slots.map fun s => a.tmps.getD s undef) w.drew)
    (hend : ∀ d vs w, (∀ i, i < l.length → d i = true) → vs.length = slots.length → J d vs w → Q .normal (putL a slots vs) w)
    (hstep : ∀ (i : Nat) (o : Oper), l[i]? = some o → ∀ d vs w, vs.length = slots.length → J d vs w → d i = false → (waits o).all d = true →
      wpList P l.toArray (Nly fun a' w' => ∃ vs', vs'.length = slots.length ∧ a' = putL a slots vs' ∧ J (upd d i) vs' w') [o] (putL a slots vs) w) :
    (Code.region id l.toArray true).wp P Q a w := by
  refine wp_region_inv hm hback (fun d a' w' => ∃ vs, vs.length = slots.length ∧ a' = putL a slots vs ∧ J d vs w') ?_ ?_ ?_
  · exact ⟨_, by simp, (putL_self a slots).symm, h0⟩
  · rintro d _ w' hd ⟨vs, hl, rfl, hJ⟩
    exact hend d vs w' hd hl hJ
  · rintro i o ho d _ w' ⟨vs, hl, rfl, hJ⟩ hi hw
    exact hstep i o ho d vs w' hl hJ hi hw

def TabJ (b0 g gi i k gw q cw n lf : Nat) (OUT : Value) (f : Fam) (nm : ByteArray) (R : InfoD) (L : List InfoD) (WS : List ByteArray) (ws : World) (d : Nat → Bool) (vs : List Value) (w : World) : Prop :=
  (d 0 = true → vs[0]?.getD undef = OUT) ∧
  (d 1 = true → vs[1]?.getD undef = .slice (some ⟨g, 0, none⟩) 7 7) ∧
  (d 2 = true → vs[2]?.getD undef = .int .i64 (i : Int)) ∧
  (d 3 = true → vs[3]?.getD undef = .pointer (some ⟨g, i, none⟩)) ∧
  (d 4 = true → vs[4]?.getD undef = .slice (some ⟨gi, 0, none⟩) lf lf) ∧
  (d 5 = true → vs[5]?.getD undef = .int .i64 (k : Int)) ∧
  (d 6 = true → vs[6]?.getD undef = .pointer (some ⟨gi, k * 7, none⟩)) ∧
  (d 7 = true → vs[7]?.getD undef = .agg #[.int .u16 (f.first : Int), .string (str f.ahead), .string (str f.names), .string (str f.types), .int .u8 (f.imm : Int), .string (str f.bits), .bool f.plain]) ∧
  (d 8 = true → vs[8]?.getD undef = .slice (some ⟨gw, 0, none⟩) q cw) ∧
  (d 9 = true → vs[9]?.getD undef = .int .i64 (n : Int)) ∧
  (d 10 = true → vs[10]?.getD undef = .pointer (some ⟨gw, n, none⟩)) ∧
  (d 11 = true → vs[11]?.getD undef = .string nm) ∧
  (d 12 = true → vs[12]?.getD undef = .int .i64 (n : Int)) ∧
  (d 13 = true → d 14 = false → InfoV w b0 (vs[13]?.getD undef) R) ∧
  (d 14 = true → d 15 = false → OneRow w (vs[14]?.getD undef) R) ∧
  (d 15 = true → TabRow w b0 (vs[15]?.getD undef) (L ++ [R])) ∧
  (d 16 = true → TabRow w b0 (vs[16]?.getD undef) (L ++ [R])) ∧
  (d 15 = false → TabRow w b0 OUT L) ∧
  (d 15 = false → w.cell? ⟨g, i, none⟩ = some (.slice (some ⟨gi, 0, none⟩) lf lf)) ∧
  (d 15 = false → w.rangeAt gi (k * 7) [.int .u16 (f.first : Int), .string (str f.ahead), .string (str f.names), .string (str f.types), .int .u8 (f.imm : Int), .string (str f.bits), .bool f.plain]) ∧
  (d 15 = false → w.cell? ⟨gw, n, none⟩ = some (.string nm)) ∧
  OwnS w 0 (.slice (some ⟨gw, 0, none⟩) q cw) WS ∧
  (d 16 = true → d 15 = true) ∧
  (d 15 = true → d 14 = true ∧ d 0 = true) ∧
  (d 16 = false → vs[16]?.getD undef = OUT) ∧
  (d 14 = true → d 13 = true) ∧
  (d 13 = true → d 7 = true ∧ d 11 = true ∧ d 4 = true) ∧
  (d 7 = true → d 4 = true) ∧
  (d 6 = true → d 4 = true) ∧ Below b0 ws w

set_option maxRecDepth 100000 in
set_option maxHeartbeats 32000000 in
theorem rTable_calls (w : World) : Calls Tryd.prog 29 #[] w fun e w' => ∃ v, e = .returned v ∧ TabRow w' w.heap.size v rowsD ∧ Below w.heap.size w w' := by
  obtain ⟨i0, hi0, hz0, hz1, hz2⟩ := info_parts infoIn
  go_enter Tryd.func29, Tryd.ntmps29
  go_wp2_with fail
  refine (rfamilies_calls w).mono ?_
  rintro e w1 ⟨V, rfl, hall, hb1⟩
  have B1 := hideT hb1
  have AL := hideT hall
  obtain ⟨g, hV, _⟩ := hall
  subst hV
  clear hb1
  dsimp only
  go_wp2_with fail
  go_loopw [3, 1] (fun x v wr => ∃ (i : Nat) (vo : Value), x = .int .i64 (i : Int) ∧ v = vo ∧ i ≤ 7 ∧ TabRow wr w1.heap.size vo (upTo i 0) ∧ Below w1.heap.size w1 wr) (fun x _ _ => 7 - (intOf x).toNat)
  case atStart => exact ⟨0, _, rfl, rfl, by omega, TabRow.nil _ _, Below.refl _ _⟩
  case round =>
    obtain ⟨i, vo, rfl, rfl, hi, htab, hbel⟩ := hrel
    obtain ⟨ao, co, hvo⟩ := TabRow.shape htab
    subst hvo
    have HT := hideT htab
    have HR := hideT hbel
    have A2 := hideT (AL.out.later hbel)
    clear htab hbel
    by_cases c0 : i < 7
    · obtain ⟨g', hV, hcells⟩ := A2.out
      simp only [Value.slice.injEq, Option.some.injEq, Addr.mk.injEq, and_true] at hV
      subst hV
      obtain ⟨gi, hc, hfam⟩ := hcells i c0
      obtain ⟨lf, hlf⟩ : ∃ lf, (famAt i).length = lf := ⟨_, rfl⟩
      rw [hlf] at hc
      have HLF := hideT hlf
      have HI := hideT c0
      have LN : lf ≤ 31 := by
        rw [← hlf]
        match i, c0 with
        | 0, _ => decide
        | 1, _ => decide
        | 2, _ => decide
        | 3, _ => decide
        | 4, _ => decide
        | 5, _ => decide
        | 6, _ => decide
      clear hcells A2
      have ci : (i : Int) < 7 := by omega
      obtain ⟨wo, hwo⟩ : ∃ x, x = wr := ⟨_, rfl⟩
      subst hwo
      have HFAM := hideT hfam
      have HC := hideT hc
      clear c0 hlf hc hfam
      go_wp2_with fail
      go_loopw [4, 1] (fun x v wq => ∃ (k : Nat) (vo : Value), x = .int .i64 (k : Int) ∧ v = vo ∧ k ≤ lf ∧ TabRow wq w1.heap.size vo (upTo i k) ∧ Below w1.heap.size w1 wq) (fun x _ _ => lf - (intOf x).toNat)
      case atStart => exact ⟨0, _, rfl, rfl, Nat.zero_le _, HT.out, HR.out⟩
      case round =>
        obtain ⟨k, vk, rfl, rfl, hk, htk, hbk⟩ := hrel
        obtain ⟨ak, ck', hvk⟩ := TabRow.shape htk
        subst hvk
        obtain ⟨wq, hwq⟩ : ∃ x, x = wr := ⟨_, rfl⟩
        subst hwq
        have HTK := hideT htk
        have HQ := hideT hbk
        obtain ⟨g', hV, hcells⟩ := AL.out.later hbk
        simp only [Value.slice.injEq, Option.some.injEq, Addr.mk.injEq, and_true] at hV
        subst hV
        obtain ⟨gi, hcq, hfq⟩ := hcells i HI.out
        rw [HLF.out] at hcq
        have HCQ := hideT hcq
        have HFQ := hideT hfq
        clear htk hbk hcells hfq HT HR HC HFAM
        by_cases c1 : k < lf
        · obtain ⟨f, hf⟩ : ∃ f, (famAt i)[k]? = some f := ⟨_, List.getElem?_eq_getElem (by rw [HLF.out]; exact c1)⟩
          have MEM := mem_famAt HI.out hf
          have RG := HFQ.out.range hf
          have z2 : wq.cell? ⟨gi, k * 7 + 2, none⟩ = some (.string (str f.names)) := RG 2 _ rfl
          have hlet := List.all_eq_true.1 letN_all f MEM
          simp only [Bool.and_eq_true, decide_eq_true_eq] at hlet
          have CW := hideT (fun V => rwords_calls (str f.names) (by rw [str_size]; omega) V)
          have EW := hideT (words_str (letB_let hlet.1))
          have MM := hideT MEM
          have HF := hideT hf
          have UL := hideT (upTo_len HI.out hf)
          have ck : (k : Int) < (lf : Int) := by omega
          have HK := hideT c1
          have RGH := hideT RG
          clear hlet MEM hf c1 RG
          go_wp2_with fail
          refine (CW.out _).mono ?_
          rintro e w2 ⟨vw, rfl, hown, hb2⟩
          rw [EW.out] at hown
          obtain ⟨aw, cw, hvw⟩ := OwnS.shape hown
          rw [List.length_map] at hvw
          obtain ⟨q, hq⟩ : ∃ q, (wordsL f.names).length = q := ⟨_, rfl⟩
          rw [hq] at hvw UL
          subst hvw
          have HQL := hideT hq
          have B2 := hideT (HQ.out.trans (hb2.mono HQ.out.size))
          have OS := hideT (OwnS.mono0 hown)
          have TK := hideT (HTK.out.later hb2)
          clear hown hb2 CW EW hq z2 hcq HCQ HFQ HTK RGH
          dsimp only
          go_wp2_with fail
          go_loopw [6, 1] (fun x v ws => ∃ (n : Nat) (vo : Value), x = .int .i64 (n : Int) ∧ v = vo ∧ n ≤ q ∧ TabRow ws w1.heap.size vo (upTo i k ++ (List.range n).map (infoD f)) ∧ OwnS ws 0 (.slice aw q cw) ((wordsL f.names).map str) ∧ Below w1.heap.size w1 ws) (fun x _ _ => q - (intOf x).toNat)
          case atStart => exact ⟨0, _, rfl, rfl, Nat.zero_le _, by simpa using TK.out, OS.out, B2.out⟩
          case round =>
            obtain ⟨n, vn, rfl, rfl, hn, htn, hos, hbn⟩ := hrel
            obtain ⟨wn, hwn⟩ : ∃ x, x = wr := ⟨_, rfl⟩
            subst hwn
            have HTN := hideT htn
            have HOS := hideT hos
            have HBN := hideT hbn
            obtain ⟨an, cn, hvn⟩ := TabRow.shape htn
            subst hvn
            clear htn hbn TK OS B2
            by_cases c2 : n < q
            · have cnq : (n : Int) < (q : Int) := by omega
              have HN := hideT c2
              obtain ⟨gw, cw', hvw, hcw⟩ := hos.cellAt (k := n) (by rw [List.length_map, HQL.out]; exact c2)
              simp only [Value.slice.injEq] at hvw
              obtain ⟨rfl, -, rfl⟩ := hvw
              rw [nameAt_get (by rw [HQL.out]; exact c2)] at hcw
              obtain ⟨g', hV, hcells⟩ := AL.out.later HBN.out
              simp only [Value.slice.injEq, Option.some.injEq, Addr.mk.injEq, and_true] at hV
              subst hV
              obtain ⟨gi, hcq, hfq⟩ := hcells i HI.out
              rw [HLF.out] at hcq
              have HC1 := hideT hcq
              have HC2 : Hid (wn.rangeAt gi (k * 7) [.int .u16 (f.first : Int), .string (str f.ahead), .string (str f.names), .string (str f.types), .int .u8 (f.imm : Int), .string (str f.bits), .bool f.plain]) := hideT (hfq.range HF.out)
              have HC3 := hideT hcw
              have INF := (fun V => (rinfo_calls MM.out (by rw [HQL.out]; exact c2) V).mono fun e w' h => InfoPost.info h)
              rw [show famV f = .agg #[.int .u16 (f.first : Int), .string (str f.ahead), .string (str f.names), .string (str f.types), .int .u8 (f.imm : Int), .string (str f.bits), .bool f.plain] from rfl] at INF
              have INF := hideT INF
              have PN := hideT (part_next f n)
              have HB0 : Hid (w1.heap.size ≤ wn.heap.size) := hideT HBN.out.size
              obtain ⟨L, hL⟩ : ∃ L, upTo i k ++ (List.range n).map (infoD f) = L := ⟨_, rfl⟩
              have HLE := hideT hL
              have HLL : Hid (L.length ≤ 435) := hideT (by rw [← hL]; have := UL.out; simp; omega)
              rw [hL] at HTN ⊢
              have C63 : Hid (L.length + 1 ≤ maxLen) := hideT (by have := HLL.out; unfold maxLen; omega)
              have C47 : Hid ((L.length + 1) * 96 ≤ 140737488355328) := hideT (by have := HLL.out; omega)
              have QB : q ≤ 435 := by have := UL.out; omega
              clear hos hcw hcells hcq hfq hL c2 UL
              generalize infoD f n = R at *
              generalize str (nameAt f n) = nm at *
              generalize (wordsL f.names).map str = WS at *
              go_wp2_with fail
              refine wp_region_par0 [38, 39, 40, 41, 42, 43, 44, 45, 46, 47, 48, 49, 50, 51, 52, 53, 1] (TabJ w1.heap.size g gi i k gw q cw n lf (.slice an L.length cn) f nm R L WS wn) (by kernel_rfl) (by kernel_rfl) ?_ ?_ ?_
              · exact ⟨(fun h => by cases h), (fun h => by cases h), (fun h => by cases h), (fun h => by cases h), (fun h => by cases h), (fun h => by cases h), (fun h => by cases h), (fun h => by cases h), (fun h => by cases h), (fun h => by cases h), (fun h => by cases h), (fun h => by cases h), (fun h => by cases h), (fun h => by cases h), (fun h => by cases h), (fun h => by cases h), (fun h => by cases h), (fun _ => HTN.out), (fun _ => HC1.out), (fun _ => HC2.out), (fun _ => HC3.out), HOS.out, (fun h => by cases h), (fun h => by cases h), (fun _ => rfl), (fun h => by cases h), (fun h => by cases h), (fun h => by cases h), (fun h => by cases h), (Below.refl _ _).drew⟩
              · intro d vs wz hd hl hJ
                match vs, hl with
                | [x0, x1, x2, x3, x4, x5, x6, x7, x8, x9, x10, x11, x12, x13, x14, x15, x16], _ =>
                obtain ⟨j0, j1, j2, j3, j4, j5, j6, j7, j8, j9, j10, j11, j12, j13, j14, j15, j16, jo, jg, jf, jn, js, p16, p15, j17, p14, p13, p7, p6, jb⟩ := hJ
                have T16 := j16 (hd 16 (by decide))
                simp only [List.getElem?_cons_zero, List.getElem?_cons_succ, Option.getD_some] at T16
                obtain ⟨a16, c16, e16⟩ := TabRow.shape T16
                subst e16
                have EQ : L ++ [R] = upTo i k ++ (List.range (n + 1)).map (infoD f) := by rw [← HLE.out, List.append_assoc, ← PN.out]
                have HT16 : Hid (TabRow wz w1.heap.size (.slice a16 (L ++ [R]).length c16) (upTo i k ++ (List.range (n + 1)).map (infoD f))) := hideT (by rw [← EQ]; exact T16)
                clear EQ
                have HS16 := hideT js
                have HB16 := hideT (HBN.out.trans jb)
                clear hd hl j0 j1 j2 j3 j4 j5 j6 j7 j8 j9 j10 j11 j12 j13 j14 j15 j16 jo jg jf jn js p16 p15 j17 p14 p13 p7 p6 jb T16
                simp only [putL, Act.put, List.setIfInBounds_toArray, List.set_cons_succ, List.set_cons_zero]
                go_wp2_with fail
                go_roundw
                case rel => exact ⟨n + 1, _, by go_num, rfl, HN.out, HT16.out, HS16.out, HB16.out⟩
                case measure => have := HN.out; simp [intOf]; omega
              · intro ii oo hoo d vs wz hl hJ hii hw
                match vs, hl with
                | [x0, x1, x2, x3, x4, x5, x6, x7, x8, x9, x10, x11, x12, x13, x14, x15, x16], _ =>
                have hin : ii < 17 := (List.getElem?_eq_some_iff.1 hoo).1
                obtain ⟨j0, j1, j2, j3, j4, j5, j6, j7, j8, j9, j10, j11, j12, j13, j14, j15, j16, jo, jg, jf, jn, js, p16, p15, j17, p14, p13, p7, p6, jb⟩ := hJ
                simp only [List.getElem?_cons_zero, List.getElem?_cons_succ, Option.some.injEq, Option.getD_some] at j0 j1 j2 j3 j4 j5 j6 j7 j8 j9 j10 j11 j12 j13 j14 j15 j16
                rcases (show ii = 0 ∨ ii = 1 ∨ ii = 2 ∨ ii = 3 ∨ ii = 4 ∨ ii = 5 ∨ ii = 6 ∨ ii = 7 ∨ ii = 8 ∨ ii = 9 ∨ ii = 10 ∨ ii = 11 ∨ ii = 12 ∨ ii = 13 ∨ ii = 14 ∨ ii = 15 ∨ ii = 16 by omega) with rfl | rfl | rfl | rfl | rfl | rfl | rfl | rfl | rfl | rfl | rfl | rfl | rfl | rfl | rfl | rfl | rfl
                · simp only [List.getElem?_cons_zero, List.getElem?_cons_succ, Option.some.injEq] at hoo
                  subst hoo
                  have n16 : d 16 = false := by
                    cases h : d 16 with
                    | false => rfl
                    | true => exact absurd (p15 (p16 h)).2 (by rw [hii]; decide)
                  obtain rfl := j17 n16
                  have Q16 := hideT p16
                  have Q15 := hideT p15
                  have Q14 := hideT p14
                  have Q13 := hideT p13
                  have Q7 := hideT p7
                  have Q6 := hideT p6
                  clear p16 p15 p14 p13 p7 p6
                  simp only [putL, Act.put, List.setIfInBounds_toArray, List.set_cons_succ, List.set_cons_zero]
                  go_wp2
                  exact ⟨rfl, [_, x1, x2, x3, x4, x5, x6, x7, x8, x9, x10, x11, x12, x13, x14, x15, _], rfl, (by simp only [putL, Act.put, List.setIfInBounds_toArray, List.set_cons_succ, List.set_cons_zero]), (fun _ => rfl), j1, j2, j3, j4, j5, j6, j7, j8, j9, j10, j11, j12, j13, j14, j15, j16, jo, jg, jf, jn, js, Q16.out, (fun h => ⟨(Q15.out h).1, rfl⟩), (fun _ => rfl), Q14.out, Q13.out, Q7.out, Q6.out, jb⟩
                · simp only [List.getElem?_cons_zero, List.getElem?_cons_succ, Option.some.injEq] at hoo
                  subst hoo
                  have Q16 := hideT p16
                  have Q15 := hideT p15
                  have Q14 := hideT p14
                  have Q13 := hideT p13
                  have Q7 := hideT p7
                  have Q6 := hideT p6
                  clear p16 p15 p14 p13 p7 p6
                  simp only [putL, Act.put, List.setIfInBounds_toArray, List.set_cons_succ, List.set_cons_zero]
                  go_wp2
                  exact ⟨rfl, [x0, _, x2, x3, x4, x5, x6, x7, x8, x9, x10, x11, x12, x13, x14, x15, x16], rfl, (by simp only [putL, Act.put, List.setIfInBounds_toArray, List.set_cons_succ, List.set_cons_zero]), j0, (fun _ => rfl), j2, j3, j4, j5, j6, j7, j8, j9, j10, j11, j12, j13, j14, j15, j16, jo, jg, jf, jn, js, Q16.out, Q15.out, j17, Q14.out, Q13.out, Q7.out, Q6.out, jb⟩
                · simp only [List.getElem?_cons_zero, List.getElem?_cons_succ, Option.some.injEq] at hoo
                  subst hoo
                  have Q16 := hideT p16
                  have Q15 := hideT p15
                  have Q14 := hideT p14
                  have Q13 := hideT p13
                  have Q7 := hideT p7
                  have Q6 := hideT p6
                  clear p16 p15 p14 p13 p7 p6
                  simp only [putL, Act.put, List.setIfInBounds_toArray, List.set_cons_succ, List.set_cons_zero]
                  go_wp2
                  exact ⟨rfl, [x0, x1, _, x3, x4, x5, x6, x7, x8, x9, x10, x11, x12, x13, x14, x15, x16], rfl, (by simp only [putL, Act.put, List.setIfInBounds_toArray, List.set_cons_succ, List.set_cons_zero]), j0, j1, (fun _ => rfl), j3, j4, j5, j6, j7, j8, j9, j10, j11, j12, j13, j14, j15, j16, jo, jg, jf, jn, js, Q16.out, Q15.out, j17, Q14.out, Q13.out, Q7.out, Q6.out, jb⟩
                · simp only [List.getElem?_cons_zero, List.getElem?_cons_succ, Option.some.injEq] at hoo
                  subst hoo
                  have hd1 : d 1 = true := List.all_eq_true.1 hw 1 (by decide)
                  obtain rfl := j1 hd1
                  have hd2 : d 2 = true := List.all_eq_true.1 hw 2 (by decide)
                  obtain rfl := j2 hd2
                  have Q16 := hideT p16
                  have Q15 := hideT p15
                  have Q14 := hideT p14
                  have Q13 := hideT p13
                  have Q7 := hideT p7
                  have Q6 := hideT p6
                  clear p16 p15 p14 p13 p7 p6
                  simp only [putL, Act.put, List.setIfInBounds_toArray, List.set_cons_succ, List.set_cons_zero]
                  go_wp2
                  exact ⟨rfl, [x0, _, _, _, x4, x5, x6, x7, x8, x9, x10, x11, x12, x13, x14, x15, x16], rfl, (by simp only [putL, Act.put, List.setIfInBounds_toArray, List.set_cons_succ, List.set_cons_zero]), j0, (fun _ => rfl), (fun _ => rfl), (fun _ => rfl), j4, j5, j6, j7, j8, j9, j10, j11, j12, j13, j14, j15, j16, jo, jg, jf, jn, js, Q16.out, Q15.out, j17, Q14.out, Q13.out, Q7.out, Q6.out, jb⟩
                · simp only [List.getElem?_cons_zero, List.getElem?_cons_succ, Option.some.injEq] at hoo
                  subst hoo
                  have hd3 : d 3 = true := List.all_eq_true.1 hw 3 (by decide)
                  obtain rfl := j3 hd3
                  have n13 : d 15 = false := by
                    cases h : d 15 with
                    | false => rfl
                    | true => exact absurd (p13 (p14 (p15 h).1)).2.2 (by rw [hii]; decide)
                  have hc := jg n13
                  have Q16 := hideT p16
                  have Q15 := hideT p15
                  have Q14 := hideT p14
                  have Q13 := hideT p13
                  have Q7 := hideT p7
                  have Q6 := hideT p6
                  clear p16 p15 p14 p13 p7 p6
                  simp only [putL, Act.put, List.setIfInBounds_toArray, List.set_cons_succ, List.set_cons_zero] at hc ⊢
                  go_wp2
                  exact ⟨rfl, [x0, x1, x2, _, _, x5, x6, x7, x8, x9, x10, x11, x12, x13, x14, x15, x16], rfl, (by simp only [putL, Act.put, List.setIfInBounds_toArray, List.set_cons_succ, List.set_cons_zero]), j0, j1, j2, (fun _ => rfl), (fun _ => rfl), j5, j6, j7, j8, j9, j10, j11, j12, j13, j14, j15, j16, jo, jg, jf, jn, js, Q16.out, Q15.out, j17, Q14.out, (fun h => ⟨(Q13.out h).1, (Q13.out h).2.1, rfl⟩), (fun _ => rfl), (fun _ => rfl), jb⟩
                · simp only [List.getElem?_cons_zero, List.getElem?_cons_succ, Option.some.injEq] at hoo
                  subst hoo
                  have Q16 := hideT p16
                  have Q15 := hideT p15
                  have Q14 := hideT p14
                  have Q13 := hideT p13
                  have Q7 := hideT p7
                  have Q6 := hideT p6
                  clear p16 p15 p14 p13 p7 p6
                  simp only [putL, Act.put, List.setIfInBounds_toArray, List.set_cons_succ, List.set_cons_zero]
                  go_wp2
                  exact ⟨rfl, [x0, x1, x2, x3, x4, _, x6, x7, x8, x9, x10, x11, x12, x13, x14, x15, x16], rfl, (by simp only [putL, Act.put, List.setIfInBounds_toArray, List.set_cons_succ, List.set_cons_zero]), j0, j1, j2, j3, j4, (fun _ => rfl), j6, j7, j8, j9, j10, j11, j12, j13, j14, j15, j16, jo, jg, jf, jn, js, Q16.out, Q15.out, j17, Q14.out, Q13.out, Q7.out, Q6.out, jb⟩
                · simp only [List.getElem?_cons_zero, List.getElem?_cons_succ, Option.some.injEq] at hoo
                  subst hoo
                  have hd4 : d 4 = true := List.all_eq_true.1 hw 4 (by decide)
                  obtain rfl := j4 hd4
                  have hd5 : d 5 = true := List.all_eq_true.1 hw 5 (by decide)
                  obtain rfl := j5 hd5
                  have Q16 := hideT p16
                  have Q15 := hideT p15
                  have Q14 := hideT p14
                  have Q13 := hideT p13
                  have Q7 := hideT p7
                  have Q6 := hideT p6
                  clear p16 p15 p14 p13 p7 p6
                  simp only [putL, Act.put, List.setIfInBounds_toArray, List.set_cons_succ, List.set_cons_zero]
                  go_wp2
                  exact ⟨rfl, [x0, x1, x2, x3, _, _, _, x7, x8, x9, x10, x11, x12, x13, x14, x15, x16], rfl, (by simp only [putL, Act.put, List.setIfInBounds_toArray, List.set_cons_succ, List.set_cons_zero]), j0, j1, j2, j3, (fun _ => rfl), (fun _ => rfl), (fun _ => rfl), j7, j8, j9, j10, j11, j12, j13, j14, j15, j16, jo, jg, jf, jn, js, Q16.out, Q15.out, j17, Q14.out, Q13.out, Q7.out, (fun _ => hd4), jb⟩
                · simp only [List.getElem?_cons_zero, List.getElem?_cons_succ, Option.some.injEq] at hoo
                  subst hoo
                  have hd6 : d 6 = true := List.all_eq_true.1 hw 6 (by decide)
                  obtain rfl := j6 hd6
                  have n13 : d 15 = false := by
                    cases h : d 15 with
                    | false => rfl
                    | true => exact absurd (p13 (p14 (p15 h).1)).1 (by rw [hii]; decide)
                  have hr := jf n13
                  have Q16 := hideT p16
                  have Q15 := hideT p15
                  have Q14 := hideT p14
                  have Q13 := hideT p13
                  have Q7 := hideT p7
                  have Q6 := hideT p6
                  clear p16 p15 p14 p13 p7 p6
                  simp only [putL, Act.put, List.setIfInBounds_toArray, List.set_cons_succ, List.set_cons_zero]
                  go_wp2_with (refine wpList_load_mid rfl 59 _ rfl gi _ rfl _ _ hr Tryd.underlying59 rfl infoFm ?_)
                  exact ⟨rfl, [x0, x1, x2, x3, x4, x5, _, _, x8, x9, x10, x11, x12, x13, x14, x15, x16], rfl, (by simp only [putL, Act.put, List.setIfInBounds_toArray, List.set_cons_succ, List.set_cons_zero]), j0, j1, j2, j3, j4, j5, (fun _ => rfl), (fun _ => rfl), j8, j9, j10, j11, j12, j13, j14, j15, j16, jo, jg, jf, jn, js, Q16.out, Q15.out, j17, Q14.out, (fun h => ⟨rfl, (Q13.out h).2⟩), (fun _ => Q6.out hd6), Q6.out, jb⟩
                · simp only [List.getElem?_cons_zero, List.getElem?_cons_succ, Option.some.injEq] at hoo
                  subst hoo
                  have Q16 := hideT p16
                  have Q15 := hideT p15
                  have Q14 := hideT p14
                  have Q13 := hideT p13
                  have Q7 := hideT p7
                  have Q6 := hideT p6
                  clear p16 p15 p14 p13 p7 p6
                  simp only [putL, Act.put, List.setIfInBounds_toArray, List.set_cons_succ, List.set_cons_zero]
                  go_wp2
                  exact ⟨rfl, [x0, x1, x2, x3, x4, x5, x6, x7, _, x9, x10, x11, x12, x13, x14, x15, x16], rfl, (by simp only [putL, Act.put, List.setIfInBounds_toArray, List.set_cons_succ, List.set_cons_zero]), j0, j1, j2, j3, j4, j5, j6, j7, (fun _ => rfl), j9, j10, j11, j12, j13, j14, j15, j16, jo, jg, jf, jn, js, Q16.out, Q15.out, j17, Q14.out, Q13.out, Q7.out, Q6.out, jb⟩
                · simp only [List.getElem?_cons_zero, List.getElem?_cons_succ, Option.some.injEq] at hoo
                  subst hoo
                  have Q16 := hideT p16
                  have Q15 := hideT p15
                  have Q14 := hideT p14
                  have Q13 := hideT p13
                  have Q7 := hideT p7
                  have Q6 := hideT p6
                  clear p16 p15 p14 p13 p7 p6
                  simp only [putL, Act.put, List.setIfInBounds_toArray, List.set_cons_succ, List.set_cons_zero]
                  go_wp2
                  exact ⟨rfl, [x0, x1, x2, x3, x4, x5, x6, x7, x8, _, x10, x11, x12, x13, x14, x15, x16], rfl, (by simp only [putL, Act.put, List.setIfInBounds_toArray, List.set_cons_succ, List.set_cons_zero]), j0, j1, j2, j3, j4, j5, j6, j7, j8, (fun _ => rfl), j10, j11, j12, j13, j14, j15, j16, jo, jg, jf, jn, js, Q16.out, Q15.out, j17, Q14.out, Q13.out, Q7.out, Q6.out, jb⟩
                · simp only [List.getElem?_cons_zero, List.getElem?_cons_succ, Option.some.injEq] at hoo
                  subst hoo
                  have hd8 : d 8 = true := List.all_eq_true.1 hw 8 (by decide)
                  obtain rfl := j8 hd8
                  have hd9 : d 9 = true := List.all_eq_true.1 hw 9 (by decide)
                  obtain rfl := j9 hd9
                  have Q16 := hideT p16
                  have Q15 := hideT p15
                  have Q14 := hideT p14
                  have Q13 := hideT p13
                  have Q7 := hideT p7
                  have Q6 := hideT p6
                  clear p16 p15 p14 p13 p7 p6
                  simp only [putL, Act.put, List.setIfInBounds_toArray, List.set_cons_succ, List.set_cons_zero]
                  go_wp2
                  exact ⟨rfl, [x0, x1, x2, x3, x4, x5, x6, x7, _, _, _, x11, x12, x13, x14, x15, x16], rfl, (by simp only [putL, Act.put, List.setIfInBounds_toArray, List.set_cons_succ, List.set_cons_zero]), j0, j1, j2, j3, j4, j5, j6, j7, (fun _ => rfl), (fun _ => rfl), (fun _ => rfl), j11, j12, j13, j14, j15, j16, jo, jg, jf, jn, js, Q16.out, Q15.out, j17, Q14.out, Q13.out, Q7.out, Q6.out, jb⟩
                · simp only [List.getElem?_cons_zero, List.getElem?_cons_succ, Option.some.injEq] at hoo
                  subst hoo
                  have hd10 : d 10 = true := List.all_eq_true.1 hw 10 (by decide)
                  obtain rfl := j10 hd10
                  have n13 : d 15 = false := by
                    cases h : d 15 with
                    | false => rfl
                    | true => exact absurd (p13 (p14 (p15 h).1)).2.1 (by rw [hii]; decide)
                  have hc := jn n13
                  have Q16 := hideT p16
                  have Q15 := hideT p15
                  have Q14 := hideT p14
                  have Q13 := hideT p13
                  have Q7 := hideT p7
                  have Q6 := hideT p6
                  clear p16 p15 p14 p13 p7 p6
                  simp only [putL, Act.put, List.setIfInBounds_toArray, List.set_cons_succ, List.set_cons_zero] at hc ⊢
                  go_wp2
                  exact ⟨rfl, [x0, x1, x2, x3, x4, x5, x6, x7, x8, x9, _, _, x12, x13, x14, x15, x16], rfl, (by simp only [putL, Act.put, List.setIfInBounds_toArray, List.set_cons_succ, List.set_cons_zero]), j0, j1, j2, j3, j4, j5, j6, j7, j8, j9, (fun _ => rfl), (fun _ => rfl), j12, j13, j14, j15, j16, jo, jg, jf, jn, js, Q16.out, Q15.out, j17, Q14.out, (fun h => ⟨(Q13.out h).1, rfl, (Q13.out h).2.2⟩), Q7.out, Q6.out, jb⟩
                · simp only [List.getElem?_cons_zero, List.getElem?_cons_succ, Option.some.injEq] at hoo
                  subst hoo
                  have Q16 := hideT p16
                  have Q15 := hideT p15
                  have Q14 := hideT p14
                  have Q13 := hideT p13
                  have Q7 := hideT p7
                  have Q6 := hideT p6
                  clear p16 p15 p14 p13 p7 p6
                  simp only [putL, Act.put, List.setIfInBounds_toArray, List.set_cons_succ, List.set_cons_zero]
                  go_wp2
                  exact ⟨rfl, [x0, x1, x2, x3, x4, x5, x6, x7, x8, x9, x10, x11, _, x13, x14, x15, x16], rfl, (by simp only [putL, Act.put, List.setIfInBounds_toArray, List.set_cons_succ, List.set_cons_zero]), j0, j1, j2, j3, j4, j5, j6, j7, j8, j9, j10, j11, (fun _ => rfl), j13, j14, j15, j16, jo, jg, jf, jn, js, Q16.out, Q15.out, j17, Q14.out, Q13.out, Q7.out, Q6.out, jb⟩
                · simp only [List.getElem?_cons_zero, List.getElem?_cons_succ, Option.some.injEq] at hoo
                  subst hoo
                  have hd7 : d 7 = true := List.all_eq_true.1 hw 7 (by decide)
                  obtain rfl := j7 hd7
                  have hd11 : d 11 = true := List.all_eq_true.1 hw 11 (by decide)
                  obtain rfl := j11 hd11
                  have hd12 : d 12 = true := List.all_eq_true.1 hw 12 (by decide)
                  obtain rfl := j12 hd12
                  have n14 : d 14 = false := by
                    cases h : d 14 with
                    | false => rfl
                    | true => exact absurd (p14 h) (by rw [hii]; decide)
                  have CC := hideT (INF.out wz)
                  have hbz : Hid (w1.heap.size ≤ wz.heap.size) := hideT (Nat.le_trans HB0.out jb.size)
                  have Q16 := hideT p16
                  have Q15 := hideT p15
                  have Q14 := hideT p14
                  have Q13 := hideT p13
                  have Q7 := hideT p7
                  have Q6 := hideT p6
                  clear p16 p15 p14 p13 p7 p6
                  simp only [putL, Act.put, List.setIfInBounds_toArray, List.set_cons_succ, List.set_cons_zero]
                  go_wp2_with ((with_reducible refine CC.out.mono ?_); rintro e w3 ⟨z, rfl, hinf, hb⟩)
                  exact ⟨rfl, [x0, x1, x2, x3, x4, x5, x6, _, x8, x9, x10, _, _, z, x14, x15, x16], rfl, (by simp only [putL, Act.put, List.setIfInBounds_toArray, List.set_cons_succ, List.set_cons_zero]), j0, j1, j2, j3, j4, j5, j6, (fun _ => rfl), j8, j9, j10, (fun _ => rfl), (fun _ => rfl), (fun _ _ => InfoV.mono hinf hbz.out), (fun h g => (j14 h g).later hb), (fun h => (j15 h).later hb), (fun h => (j16 h).later hb), (fun h => (jo h).later hb), (fun h => cell_laterF hb (jg h)), (fun h j v hv => cell_laterF hb (jf h j v hv)), (fun h => cell_laterF hb (jn h)), (OwnS.later js hb), Q16.out, Q15.out, j17, (fun _ => rfl), (fun _ => ⟨hd7, hd11, Q7.out hd7⟩), Q7.out, Q6.out, (jb.trans (hb.mono hbz.out))⟩
                · simp only [List.getElem?_cons_zero, List.getElem?_cons_succ, Option.some.injEq] at hoo
                  subst hoo
                  have hd13 : d 13 = true := List.all_eq_true.1 hw 13 (by decide)
                  have n15 : d 15 = false := by
                    cases h : d 15 with
                    | false => rfl
                    | true => exact absurd ((p15 h).1) (by rw [hii]; decide)
                  obtain ⟨a1, c1, a2, c2, e13, h1, h2⟩ := j13 hd13 hii
                  subst e13
                  have hb : Below wz.heap.size wz (wz.alloc (.cells #[.int .u16 (R.op : Int), .string (str R.name), .int .u8 (R.imm : Int), .slice a1 R.fr.length c1, .slice a2 R.to.length c2, .int .i64 (R.bits : Int), .bool R.plain] 27)) := ((Below.refl wz.heap.size wz).alloc (Nat.le_refl _) _)
                  have HBN := hideT hb
                  have hbz : Hid (w1.heap.size ≤ wz.heap.size) := hideT (Nat.le_trans HB0.out jb.size)
                  have NEW : Hid (OneRow (wz.alloc (.cells #[.int .u16 (R.op : Int), .string (str R.name), .int .u8 (R.imm : Int), .slice a1 R.fr.length c1, .slice a2 R.to.length c2, .int .i64 (R.bits : Int), .bool R.plain] 27)) (.slice (some ⟨wz.heap.size, 0, none⟩) 1 1) R) := hideT ⟨_, _, _, _, _, _, rfl, heap_alloc_new wz _, rfl, rfl, rfl, rfl, rfl⟩
                  clear hb h1 h2
                  have Q16 := hideT p16
                  have Q15 := hideT p15
                  have Q14 := hideT p14
                  have Q13 := hideT p13
                  have Q7 := hideT p7
                  have Q6 := hideT p6
                  clear p16 p15 p14 p13 p7 p6
                  simp only [putL, Act.put, List.setIfInBounds_toArray, List.set_cons_succ, List.set_cons_zero]
                  go_wp2
                  have hb := HBN.out
                  exact ⟨rfl, [x0, x1, x2, x3, x4, x5, x6, x7, x8, x9, x10, x11, x12, .agg #[.int .u16 (R.op : Int), .string (str R.name), .int .u8 (R.imm : Int), .slice a1 R.fr.length c1, .slice a2 R.to.length c2, .int .i64 (R.bits : Int), .bool R.plain], _, x15, x16], rfl, (by simp only [putL, Act.put, List.setIfInBounds_toArray, List.set_cons_succ, List.set_cons_zero]), j0, j1, j2, j3, j4, j5, j6, j7, j8, j9, j10, j11, j12, (fun _ h => absurd h (by simp [upd])), (fun _ _ => NEW.out), (fun h => (j15 h).later hb), (fun h => (j16 h).later hb), (fun h => (jo h).later hb), (fun h => cell_laterF hb (jg h)), (fun h j v hv => cell_laterF hb (jf h j v hv)), (fun h => cell_laterF hb (jn h)), (OwnS.later js hb), Q16.out, (fun h => ⟨rfl, (Q15.out h).2⟩), j17, (fun _ => hd13), Q13.out, Q7.out, Q6.out, (jb.alloc hbz.out _)⟩
                · simp only [List.getElem?_cons_zero, List.getElem?_cons_succ, Option.some.injEq] at hoo
                  subst hoo
                  have hd0 : d 0 = true := List.all_eq_true.1 hw 0 (by decide)
                  obtain rfl := j0 hd0
                  have hd14 : d 14 = true := List.all_eq_true.1 hw 14 (by decide)
                  have n16 : d 16 = false := by
                    cases h : d 16 with
                    | false => rfl
                    | true => exact absurd (p16 h) (by rw [hii]; decide)
                  obtain ⟨gB, c2, c3, c4, c5, c6, e14, hblk, o2, o3, o4, o5, o6⟩ := j14 hd14 hii
                  subst e14
                  obtain ⟨xr, hown, hxr⟩ := jo hii
                  have HO := hideT hown
                  have JS := hideT js
                  have JB := hideT jb
                  have hbz : Hid (w1.heap.size ≤ wz.heap.size) := hideT (Nat.le_trans HB0.out jb.size)
                  have HN : Hid (∀ (j : Nat) (u : Value), ([.int .u16 (R.op : Int), .string (str R.name), c2, c3, c4, c5, c6] : List Value)[j]? = some u → wz.cell? ((⟨gB, 0, none⟩ : Addr).add j) = some u) := hideT (by
                    intro j u hu
                    rw [Addr.add_mid]
                    simp only [World.cell?, Nat.zero_add, hblk]
                    simpa using hu)
                  have H1 : Hid (∀ u ∈ ([.int .u16 (R.op : Int), .string (str R.name), c2, c3, c4, c5, c6] : List Value), u.oneCell' = true) := hideT (by
                    intro u hu
                    simp at hu
                    rcases hu with rfl | rfl | rfl | rfl | rfl | rfl | rfl <;> first | rfl | assumption)
                  have HXL : Hid (xr.length = L.length * 7) := hideT hown.1
                  have HX := hideT hxr
                  skip
                  clear hown hxr hblk o2 o3 o4 o5 o6
                  have Q16 := hideT p16
                  have Q15 := hideT p15
                  have Q14 := hideT p14
                  have Q13 := hideT p13
                  have Q7 := hideT p7
                  have Q6 := hideT p6
                  clear p16 p15 p14 p13 p7 p6
                  simp only [putL, Act.put, List.setIfInBounds_toArray, List.set_cons_succ, List.set_cons_zero]
                  refine wpList_append_own _ rfl _ _ 71 rfl w1.heap.size 27 i0 (.agg #[.int .u16 0, .string ⟨#[]⟩, .int .u8 0, .slice none 0 0, .slice none 0 0, .int .i64 0, .bool false]) 7 96 Tryd.underlying71 hi0 hz0 hz1 hz2 rfl (by decide) (.slice an L.length cn) L.length xr rfl HO.out ⟨gB, 0, none⟩ 1 1 [.int .u16 (R.op : Int), .string (str R.name), c2, c3, c4, c5, c6] rfl rfl HN.out H1.out C63.out C47.out hbz.out ?_
                  intro v' w3 hown' hgrow _
                  have NEW : Hid (TabRow w3 w1.heap.size v' (L ++ [R])) := hideT (TabRow.snoc (w := wz) (v := (.slice an L.length cn)) HX.out HXL.out hown' rfl rfl)
                  have B3 := hideT (JB.out.grown hgrow hbz.out (fun j hj => (HO.out.lt j hj).1))
                  have S3 : Hid (OwnS w3 0 (.slice (some ⟨gw, 0, none⟩) q cw) WS) := hideT (kept_tag JS.out HO.out (by decide) hgrow)
                  obtain ⟨av, cv, hv⟩ := TabRow.shape NEW.out
                  subst hv
                  clear hown' hgrow
                  refine wpList_nil ?_
                  exact ⟨rfl, [_, x1, x2, x3, x4, x5, x6, x7, x8, x9, x10, x11, x12, x13, .slice (some ⟨gB, 0, none⟩) 1 1, _, x16], rfl, (by simp only [putL, Act.put, List.setIfInBounds_toArray, List.set_cons_succ, List.set_cons_zero]), (fun _ => rfl), j1, j2, j3, j4, j5, j6, j7, j8, j9, j10, j11, j12, (fun h g => absurd g (by rw [show upd d 15 14 = d 14 from rfl, hd14]; decide)), (fun _ h => absurd h (by simp [upd])), (fun _ => NEW.out), (fun h => absurd h (by rw [show upd d 15 16 = d 16 from rfl, n16]; decide)), (fun h => absurd h (by simp [upd])), (fun h => absurd h (by simp [upd])), (fun h => absurd h (by simp [upd])), (fun h => absurd h (by simp [upd])), S3.out, (fun _ => rfl), (fun _ => ⟨hd14, hd0⟩), j17, Q14.out, Q13.out, Q7.out, Q6.out, B3.out⟩
                · simp only [List.getElem?_cons_zero, List.getElem?_cons_succ, Option.some.injEq] at hoo
                  subst hoo
                  have hd15 : d 15 = true := List.all_eq_true.1 hw 15 (by decide)
                  have Q16 := hideT p16
                  have Q15 := hideT p15
                  have Q14 := hideT p14
                  have Q13 := hideT p13
                  have Q7 := hideT p7
                  have Q6 := hideT p6
                  clear p16 p15 p14 p13 p7 p6
                  simp only [putL, Act.put, List.setIfInBounds_toArray, List.set_cons_succ, List.set_cons_zero]
                  go_wp2
                  exact ⟨rfl, [x0, x1, x2, x3, x4, x5, x6, x7, x8, x9, x10, x11, x12, x13, x14, x15, _], rfl, (by simp only [putL, Act.put, List.setIfInBounds_toArray, List.set_cons_succ, List.set_cons_zero]), j0, j1, j2, j3, j4, j5, j6, j7, j8, j9, j10, j11, j12, j13, j14, j15, (fun _ => j15 hd15), jo, jg, jf, jn, js, (fun _ => hd15), Q15.out, (fun h => absurd h (by simp [upd])), Q14.out, Q13.out, Q7.out, Q6.out, jb⟩
              
            · have hnq : n = q := by omega
              have cnq : ¬ (n : Int) < (q : Int) := by omega
              have E : Hid (upTo i k ++ (List.range n).map (infoD f) = upTo i (k + 1)) := hideT (by rw [upTo_fam HF.out]; unfold rowsF; rw [HQL.out, hnq])
              clear hos c2
              rw [E.out] at HTN ⊢
              go_wp2_with fail
              go_roundw
              case rel => exact ⟨k + 1, _, by go_num, rfl, HK.out, HTN.out, HBN.out⟩
              case measure => have := HK.out; simp [intOf]; omega
        · have hkk : k = lf := by omega
          have ck : ¬ (k : Int) < (lf : Int) := by omega
          have E : Hid (upTo i k = upTo (i + 1) 0) := hideT (by rw [hkk, ← HLF.out]; exact upTo_next HI.out)
          rw [E.out] at HTK ⊢
          have HIi := HI.out
          clear c1 hkk
          go_wp2_with fail
          go_roundw
          case rel => exact ⟨i + 1, _, by go_num, rfl, by omega, HTK.out, HQ.out⟩
          case measure => simp [intOf]; omega
    · have i7 : i = 7 := by omega
      subst i7
      rw [upTo_all] at HT ⊢
      clear c0 hi A2
      go_wp2
      go_ret
      exact ⟨_, rfl, HT.out.mono B1.out.size, B1.out.trans (HR.out.mono B1.out.size)⟩
end Go.Proofs.YthggbimnjneeaaaDoor
