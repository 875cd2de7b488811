/-
  The types of letters (vals), HasSuffix, strings.Cut, a family's whole name.
-/
import Derived.Test.YthggbimnjneeaaaDoorOcSmall
import Derived.Test.YthggbimnjneeaaaDoorOcDat
set_option linter.unusedVariables false
set_option maxRecDepth 100000
set_option linter.unusedSimpArgs false
namespace Go.Proofs.YthggbimnjneeaaaDoor
open Go.RowKit Opp Opc

def cellsY (L : List Int) : Array Value := (L.map (Value.int .u8)).toArray
def YB (w : World) (g : Nat) (L : List Int) : Prop := w.heap[g]? = some (.cells (cellsY L) 39 (0, 0))
theorem YB.cell {w : World} {g : Nat} {L : List Int} (h : YB w g L) (k : Nat) (hk : k < L.length) : w.cell? ⟨g, k, none⟩ = some (.int .u8 (L[k]?.getD 0)) := by
  unfold YB at h
  simp [World.cell?, h, cellsY, List.getElem?_eq_getElem hk]
theorem YB.frozen {w : World} {g : Nat} {L : List Int} (h : YB w g L) (k : Nat) : w.frozen? ⟨g, k, none⟩ = false := frozen_of_row w g k _ _ h
theorem YB.set {w : World} {g : Nat} {L : List Int} (h : YB w g L) (k : Nat) (n : Int) : YB (w.setCell ⟨g, k, none⟩ (.int .u8 n)) g (L.set k n) := by
  unfold YB
  rw [heap_setCell_same w g k _ _ _ h]
  congr 3
  apply Array.ext'
  simp [cellsY, List.map_set]
theorem YB.own {w : World} {g b : Nat} {L : List Int} (h : YB w g L) (hb : b ≤ g) (hl : L.length ≤ maxLen) : OwnY w b (.slice (some ⟨g, 0, none⟩) L.length L.length) L := by
  refine ⟨by simp, .inr ⟨g, L.length, cellsY L, rfl, hb, h, Nat.le_refl _, hl, by simp [cellsY], by simp [cellsY, List.take_of_length_le]⟩⟩
/-- The first k letters' types, then noughts. -/
def fillY (l : List Nat) (k : Nat) : List Int := (l.take k).map tyN ++ List.replicate (l.length - k) 0
theorem fillY_len (l : List Nat) (k : Nat) : (fillY l k).length = l.length := by simp [fillY]; omega
theorem fillY_set (l : List Nat) (k : Nat) (hk : k < l.length) : (fillY l k).set k (tyN (l[k]?.getD 0)) = fillY l (k + 1) := by
  unfold fillY
  have h1 : ((l.take k).map tyN).length = k := by simp; omega
  rw [List.set_append_right _ _ (by omega), h1, Nat.sub_self, List.take_add_one, List.getElem?_eq_getElem hk]
  obtain ⟨m, hm⟩ : ∃ m, l.length - k = m + 1 := ⟨l.length - k - 1, by omega⟩
  rw [hm, show l.length - (k + 1) = m by omega, List.replicate_succ]
  simp only [List.map_append, List.set_cons_zero, Option.getD_some, Option.toList, List.map_cons, List.map_nil, List.append_assoc, List.singleton_append]
theorem fillY_all (l : List Nat) : fillY l l.length = l.map tyN := by simp [fillY]
theorem made_y (n : Nat) : madeCells #[Value.int .u8 0] n = cellsY (List.replicate n 0) := by
  apply Array.ext'
  simp [madeCells, cellsY, List.eq_replicate_iff, Nat.mod_one]

theorem meas_up (n k : Nat) (h : k < n) : n - (intOf (.int .i64 ((k : Int) + 1))).toNat < n - (intOf (.int .i64 (k : Int))).toNat := by simp [intOf]; omega
theorem wrap_small (k : Nat) (h : k ≤ 2000000) : wrap64 ((k : Int) + 1) = (k : Int) + 1 := by unfold wrap64; omega

set_option maxHeartbeats 1000000 in
theorem vals_calls (l : List Nat) (hl : Let l) (hn : l.length ≤ 1000000) (W : World) :
    Calls Tryd.prog 20 #[.string (str l)] W fun e W' => ∃ v, e = .returned v ∧ OwnY W' W.heap.size v (l.map tyN) ∧ Below W.heap.size W W' := by
  have hmk := run_make_row' (P := Tryd.prog) 25 39 (.int .u8 0) 1 Tryd.underlying25 infoY rfl .i64 .i64 l.length (by omega) (by omega)
  rw [made_y] at hmk
  have FZ : fillY l 0 = List.replicate l.length 0 := by simp [fillY]
  have C0 := hideT (show YB (W.alloc (.cells (cellsY (List.replicate l.length 0)) 39)) W.heap.size (fillY l 0) by rw [FZ]; exact heap_alloc_new W _)
  have BN := hideT ((Below.refl W.heap.size W).alloc (Nat.le_refl _) (.cells (cellsY (List.replicate l.length 0)) 39))
  obtain ⟨wa, hwa⟩ : ∃ x, W.alloc (.cells (cellsY (List.replicate l.length 0)) 39) = x := ⟨_, rfl⟩
  have hs := str_size l
  have hgs : ∀ s, str l = s → ∀ k (h : k < s.size), (s[k]'h).toNat = l[k]?.getD 0 := fun s e k h => by subst e; exact str_get hl h
  have HN := hideT hn
  have hmk0 := hmk W
  rw [hwa] at hmk0 C0 BN
  have CV := hideT (fun (c : Nat) w => val_calls c w)
  clear hmk hn hl FZ hwa
  obtain ⟨s, hs0⟩ : ∃ s, str l = s := ⟨_, rfl⟩
  rw [hs0] at hs
  rw [hs0]
  rw [← hs] at hmk0
  have HG := hideT (hgs s hs0)
  have HS := hideT hs
  clear hs0 hgs hs
  have FA := hideT (fillY_all l)
  have FS := hideT (fun k hk => fillY_set l k hk)
  have FL := hideT (fun k => fillY_len l k)
  go_enter Tryd.func20, Tryd.ntmps20
  go_wp2_with fail
  go_loopw [10] (fun x wr => ∃ k : Nat, x = .int .i64 (k : Int) ∧ k ≤ s.size ∧ YB wr W.heap.size (fillY l k) ∧ Below W.heap.size W wr) (fun x _ => s.size - (intOf x).toNat)
  case atStart => exact ⟨0, rfl, by omega, C0.out, BN.out⟩
  case round =>
    obtain ⟨k, rfl, hk, hy, hb⟩ := hrel
    have HY := hideT hy
    have HB := hideT hb
    clear hy hb hmk0 C0 BN
    by_cases c0 : k < s.size
    · have c1 : (k : Int) < (s.size : Int) := by omega
      have w1 : wrap64 ((k : Int) + 1) = (k : Int) + 1 := wrap_small k (by have := HN.out; have := HS.out; omega)
      have G := HG.out k c0
      obtain ⟨c, hc⟩ : ∃ c, l[k]?.getD 0 = c := ⟨_, rfl⟩
      rw [hc] at G
      have HST := hideT (by have := FS.out k (by rw [← HS.out]; exact c0); rw [hc] at this; exact this)
      have hcell := HY.out.cell k (by rw [FL.out, ← HS.out]; exact c0)
      have hfr := HY.out.frozen k
      have CC := hideT (CV.out c)
      clear hc CV
      generalize tyN c = t at *
      go_wp2_with fail
      refine (CC.out _).mono ?_
      rintro e w2 ⟨rfl, rfl⟩
      go_wp2_with fail
      go_roundw
      case rel => exact ⟨k + 1, by go_num, by omega, by rw [← HST.out]; exact HY.out.set k t, HB.out.setCell (by simp) _⟩
      case measure => rw [w1]; exact meas_up _ _ c0
    · obtain rfl : k = s.size := by omega
      go_wp2_with fail
      go_ret
      refine ⟨_, rfl, ?_, HB.out⟩
      have h1 := HY.out
      rw [HS.out, FA.out] at h1
      have h2 := h1.own (Nat.le_refl _) (by simp; have := HN.out; unfold maxLen; omega)
      simp only [List.length_map] at h2
      rw [HS.out]
      exact h2

theorem suffix_calls (a b : ByteArray) (ha : a.size ≤ 9223372036854775807) (hb : b.size ≤ 1000000) (W : World) :
    Calls Tryd.prog 62 #[.string a, .string b] W fun e W' => e = .returned (.bool (decide (b.size ≤ a.size) && (a.extract (a.size - b.size) a.size).toList == b.toList)) ∧ W' = W := by
  by_cases h : b.size ≤ a.size
  · have c1 : (b.size : Int) ≤ (a.size : Int) := by omega
    have c2 : (0 : Int) ≤ (a.size : Int) - (b.size : Int) := by omega
    have c3 : (a.size : Int) - (b.size : Int) ≤ (a.size : Int) := by omega
    have w1 : wrap64 ((a.size : Int) - (b.size : Int)) = ((a.size - b.size : Nat) : Int) := by unfold wrap64; omega
    have c4 : ((a.size - b.size : Nat) : Int) ≤ (a.size : Int) := by omega
    rw [decide_eq_true h, Bool.true_and]
    go_enter Tryd.func62, Tryd.ntmps62
    go_wp2
    go_ret
    exact ⟨by simp, rfl⟩
  · have c1 : ¬ (b.size : Int) ≤ (a.size : Int) := by omega
    rw [decide_eq_false h, Bool.false_and]
    go_enter Tryd.func62, Tryd.ntmps62
    go_wp2
    go_ret
    exact ⟨rfl, rfl⟩
theorem hassuffix_calls (a b : ByteArray) (ha : a.size ≤ 9223372036854775807) (hb : b.size ≤ 1000000) (W : World) :
    Calls Tryd.prog 27 #[.string a, .string b] W fun e W' => e = .returned (.bool (decide (b.size ≤ a.size) && (a.extract (a.size - b.size) a.size).toList == b.toList)) ∧ W' = W := by
  have C := hideT (fun W => suffix_calls a b ha hb W)
  generalize (decide (b.size ≤ a.size) && (a.extract (a.size - b.size) a.size).toList == b.toList) = x at *
  clear ha hb
  go_enter Tryd.func27, Tryd.ntmps27
  go_wp2_with fail
  refine (C.out _).mono ?_
  rintro e w' ⟨rfl, rfl⟩
  go_wp2
  go_ret
  exact ⟨rfl, rfl⟩

def cutV46 (l : List Nat) : Array Value := if l.findIdx (· == 46) < l.length then #[.string (str (l.take (l.findIdx (· == 46)))), .string (str (l.drop (l.findIdx (· == 46) + 1))), .bool true] else #[.string (str l), .string ⟨#[]⟩, .bool false]
theorem scut46_calls (l : List Nat) (hl : Let l) (hn : l.length ≤ 1000000) (w : World) :
    Calls Tryd.prog 19 #[.string (str l), .string ⟨#[46]⟩] w fun e w' => e = .returned (.tuple (cutV46 l)) ∧ Below w.heap.size w w' := by
  have C := hideT (fun w => cut46_calls l hl hn w)
  unfold cutV46
  obtain ⟨a, b, c, hx⟩ : ∃ a b c, (if l.findIdx (· == 46) < l.length then (#[.string (str (l.take (l.findIdx (· == 46)))), .string (str (l.drop (l.findIdx (· == 46) + 1))), .bool true] : Array Value) else #[.string (str l), .string ⟨#[]⟩, .bool false]) = #[.string a, .string b, .bool c] := by
    split
    · exact ⟨_, _, _, rfl⟩
    · exact ⟨_, _, _, rfl⟩
  rw [hx] at C ⊢
  clear hx hn hl
  go_enter Tryd.func19, Tryd.ntmps19
  go_wp2_with fail
  refine (C.out _).mono ?_
  rintro e w' ⟨rfl, hb⟩
  have HB := hideT hb
  clear hb
  dsimp only
  go_wp2
  go_ret3
  exact ⟨rfl, HB.out⟩

def cutV58 (l : List Nat) : Array Value := if l.findIdx (· == 58) < l.length then #[.string (str (l.take (l.findIdx (· == 58)))), .string (str (l.drop (l.findIdx (· == 58) + 1))), .bool true] else #[.string (str l), .string ⟨#[]⟩, .bool false]
theorem scut58_calls (l : List Nat) (hl : Let l) (hn : l.length ≤ 1000000) (w : World) :
    Calls Tryd.prog 19 #[.string (str l), .string ⟨#[58]⟩] w fun e w' => e = .returned (.tuple (cutV58 l)) ∧ Below w.heap.size w w' := by
  have C := hideT (fun w => cut58_calls l hl hn w)
  unfold cutV58
  obtain ⟨a, b, c, hx⟩ : ∃ a b c, (if l.findIdx (· == 58) < l.length then (#[.string (str (l.take (l.findIdx (· == 58)))), .string (str (l.drop (l.findIdx (· == 58) + 1))), .bool true] : Array Value) else #[.string (str l), .string ⟨#[]⟩, .bool false]) = #[.string a, .string b, .bool c] := by
    split
    · exact ⟨_, _, _, rfl⟩
    · exact ⟨_, _, _, rfl⟩
  rw [hx] at C ⊢
  clear hx hn hl
  go_enter Tryd.func19, Tryd.ntmps19
  go_wp2_with fail
  refine (C.out _).mono ?_
  rintro e w' ⟨rfl, hb⟩
  have HB := hideT hb
  clear hb
  dsimp only
  go_wp2
  go_ret3
  exact ⟨rfl, HB.out⟩


/-- A family's cells. -/
def famCC (f : FamC) : List Value := [.int .u16 (f.first : Int), .string (str f.names), .string (str f.types), .int .u8 (f.imm : Int), .int .i64 (f.bits : Int)]
def famVC (f : FamC) : Value := .agg (famCC f).toArray
theorem dotB_iff (l : List Nat) : (l.findIdx (· == 46) < l.length) ↔ dotB l = true := by
  unfold dotB
  rw [List.findIdx_lt_length, List.any_eq_true]
theorem dot_ix (l : List Nat) : decide (0 ≤ ixN l 46) = dotB l := by
  unfold ixN
  by_cases h : l.findIdx (· == 46) < l.length
  · rw [if_pos h, (dotB_iff l).1 h]
    simp
  · rw [if_neg h]
    have : dotB l = false := by
      cases hd : dotB l
      · rfl
      · exact absurd ((dotB_iff l).2 hd) h
    rw [this]
    rfl

set_option maxHeartbeats 1000000 in
theorem whole_calls (f : FamC) (part : List Nat) (h1 : Let f.names) (h2 : f.names.length ≤ 1000000) (h3 : Let part) (h4 : part.length ≤ 1000000) (W : World) :
    Calls Tryd.prog 28 #[famVC f, .string (str part)] W fun e W' => e = .returned (.string (str (wholeC f.names part))) ∧ Below W.heap.size W W' := by
  have CC := (fun w => scut46_calls f.names h1 h2 w)
  have CK := (fun w => contains46_calls part h3 w)
  simp only [dot_ix] at CK
  obtain ⟨fi, fn, ft, fm, fb⟩ := f
  simp only at CC h1 h2
  unfold famVC famCC
  simp only
  unfold cutV46 at CC
  have BB : Below W.heap.size W (W.alloc (.cells #[.int .u16 (fi : Int), .string (str fn), .string (str ft), .int .u8 (fm : Int), .int .i64 (fb : Int)] 46)) := (Below.refl _ W).alloc (Nat.le_refl _) _
  have CK := hideT CK
  have BB := hideT BB
  by_cases hd : dotB fn = true
  · rw [if_pos ((dotB_iff fn).2 hd)] at CC
    have CC := hideT CC
    by_cases hp : dotB part = true
    · have hw : wholeC fn part = part := by unfold wholeC; rw [hp]; simp
      rw [hw]
      rw [hp] at CK
      generalize str fn = sn at *
      generalize str part = sp at *
      generalize str ft = st at *
      clear h1 h2 h3 h4 hd hp hw
      go_enter Tryd.func28, Tryd.ntmps28
      go_wp2_with fail
      refine (CC.out _).mono ?_
      rintro e w' ⟨rfl, hb⟩
      have B2 := hideT (BB.out.trans (hb.mono BB.out.size))
      clear hb CC
      dsimp only
      go_wp2_with fail
      refine (CK.out _).mono ?_
      rintro e w'' ⟨rfl, rfl⟩
      go_wp2
      go_ret
      exact ⟨rfl, B2.out⟩
    · have hp : dotB part = false := by cases h : dotB part; rfl; exact absurd h hp
      have hw : str (wholeC fn part) = str (fn.take (fn.findIdx (· == 46))) ++ ⟨#[46]⟩ ++ str part := by
        unfold wholeC headC
        rw [hp, hd]
        simp only [Bool.not_true, Bool.or_self, Bool.false_eq_true, if_false]
        rw [← str_append, ← str_append]
        rfl
      rw [hw]
      rw [hp] at CK
      have n1 : ¬ 9223372036854775807 < (str (fn.take (fn.findIdx (· == 46)))).size + 1 := by rw [str_size, List.length_take]; omega
      have n2 : ¬ 9223372036854775807 < (str (fn.take (fn.findIdx (· == 46)))).size + 1 + (str part).size := by rw [str_size, List.length_take, str_size]; omega
      generalize str (fn.take (fn.findIdx (· == 46))) = sh at *
      generalize str (fn.drop (fn.findIdx (· == 46) + 1)) = sr at *
      generalize str fn = sn at *
      generalize str part = sp at *
      generalize str ft = st at *
      clear h1 h2 h3 h4 hd hp hw
      go_enter Tryd.func28, Tryd.ntmps28
      go_wp2_with fail
      refine (CC.out _).mono ?_
      rintro e w' ⟨rfl, hb⟩
      have B2 := hideT (BB.out.trans (hb.mono BB.out.size))
      clear hb CC
      dsimp only
      go_wp2_with fail
      refine (CK.out _).mono ?_
      rintro e w'' ⟨rfl, rfl⟩
      go_wp2
      go_ret
      exact ⟨rfl, B2.out⟩
  · have hd : dotB fn = false := by cases h : dotB fn; rfl; exact absurd h hd
    have hnot : ¬ (fn.findIdx (· == 46) < fn.length) := fun h => by rw [(dotB_iff fn).1 h] at hd; cases hd
    rw [if_neg hnot] at CC
    have CC := hideT CC
    have hw : wholeC fn part = part := by unfold wholeC; rw [hd]; simp
    rw [hw]
    generalize str fn = sn at *
    generalize str part = sp at *
    generalize str ft = st at *
    clear h1 h2 h3 h4 hd hnot hw CK
    go_enter Tryd.func28, Tryd.ntmps28
    go_wp2_with fail
    refine (CC.out _).mono ?_
    rintro e w' ⟨rfl, hb⟩
    have B2 := hideT (BB.out.trans (hb.mono BB.out.size))
    clear hb CC
    dsimp only
    go_wp2
    go_ret
    exact ⟨rfl, B2.out⟩
end Go.Proofs.YthggbimnjneeaaaDoor
