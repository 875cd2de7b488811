/-
  strings.FieldsSeq over a text of ASCII letters and blanks: its words, one a round.
-/
import Derived.RangeFuncNested
import Derived.RangeFuncBound
import Derived.RangeFuncCalls
import Derived.RangeFuncLeaves
import Derived.Shelf.Abstract
import Derived.Shelf.RegionOpen
import Derived.WalkKit
import Derived.OwnWalkIn
import Derived.TacticsInMore
import Derived.LoopNIn
import Derived.LoopIn
import Derived.Test.YthggbimnjneeaaaDoorOcTabs
import Derived.Test.YthggbimnjneeaaaDoorOpsMath
set_option linter.unusedVariables false
set_option maxRecDepth 100000
set_option linter.unusedSimpArgs false
namespace Go.Proofs.YthggbimnjneeaaaDoor
open Go.RowKit Go.Shelf Opp
attribute [local go_sem] Oper.semAt_some

/-- ASCII letters and blanks. -/
def Asc (l : List Nat) : Prop := ∀ x ∈ l, x = 32 ∨ (33 ≤ x ∧ x < 128)
theorem Asc.let {l : List Nat} (h : Asc l) : Let l := fun x hx => by rcases h x hx with h | h <;> omega
theorem no_space : ∀ c : Nat, c < 128 → 33 ≤ c → Lib.isSp (UInt8.ofNat c) = false := by decide
theorem space32 : Lib.isSp (UInt8.ofNat 32) = true := by decide

/-- The iterator's box, and the table, are kept. -/
def KeepB (Bn : Nat) (W W' : World) : Prop := W'.heap[Bn]? = W.heap[Bn]? ∧ W'.heap[0]? = W.heap[0]?
theorem KeepB.refl (Bn : Nat) (W : World) : KeepB Bn W W := ⟨rfl, rfl⟩
theorem KeepB.trans {Bn : Nat} {A B C : World} (h : KeepB Bn A B) (k : KeepB Bn B C) : KeepB Bn A C := ⟨k.1.trans h.1, k.2.trans h.2⟩
theorem KeepB.below {Bn B : Nat} {W W' : World} (h : Below B W W') (h1 : Bn < B) (h2 : 0 < B) : KeepB Bn W W' := ⟨h.block _ h1, h.block _ h2⟩
theorem KeepB.putObj {Bn l : Nat} (W : World) (o : Obj) (h1 : Bn ≠ l) (h2 : 0 ≠ l) : KeepB Bn W (W.putObj l o) := ⟨World.putObj_heap_other h1, World.putObj_heap_other h2⟩
theorem STab.of_block {w w' : World} (h : STab w) (hb : w'.heap[0]? = w.heap[0]?) : STab w' := fun c hc => (World.cell?_of_block hb).trans (h c hc)
theorem STab.lt {w : World} (h : STab w) : 0 < w.heap.size := World.block_lt_of_cell? _ _ (h 0 (by omega))

/-- A word of this text. -/
abbrev WordOf (l : List Nat) := { x : List Nat // x ∈ wordsL l }
def vals1 {l : List Nat} (p : List (WordOf l)) : List (List Nat) := p.map (·.1)

theorem wGo_blank (t cur : List Nat) : wGo (32 :: t) cur = if cur = [] then wGo t [] else cur :: wGo t [] := by simp [wGo]
theorem wGo_letter {c : Nat} (h : c ≠ 32) (t cur : List Nat) : wGo (c :: t) cur = wGo t (cur ++ [c]) := by simp [wGo, h]
theorem wGo_end (cur : List Nat) : wGo [] cur = if cur = [] then [] else [cur] := rfl

/-- What stands between: the words that came, and what the text from k on gives with the word that is begun. -/
def Mid (l : List Nat) (k : Nat) (st : Int) (pre : List (WordOf l)) : Prop :=
  ∃ cur, vals1 pre ++ wGo (l.drop k) cur = wordsL l ∧ ((st = -1 ∧ cur = []) ∨ ∃ s : Nat, st = (s : Int) ∧ s < k ∧ cur = (l.drop s).take (k - s) ∧ cur ≠ [])

theorem Mid.start (l : List Nat) : Mid l 0 (-1) [] := ⟨[], by simp [vals1, wordsL], .inl ⟨rfl, rfl⟩⟩
theorem Mid.none_blank {l : List Nat} {k : Nat} {pre : List (WordOf l)} (h : Mid l k (-1) pre) (hk : k < l.length) (hc : l[k] = 32) : Mid l (k + 1) (-1) pre := by
  obtain ⟨cur, he, ⟨_, rfl⟩ | ⟨s, hs, _⟩⟩ := h
  · refine ⟨[], ?_, .inl ⟨rfl, rfl⟩⟩
    rw [List.drop_eq_getElem_cons hk, hc, wGo_blank, if_pos rfl] at he
    exact he
  · omega
theorem Mid.none_letter {l : List Nat} {k : Nat} {pre : List (WordOf l)} (h : Mid l k (-1) pre) (hk : k < l.length) (hc : l[k] ≠ 32) : Mid l (k + 1) (k : Int) pre := by
  obtain ⟨cur, he, ⟨_, rfl⟩ | ⟨s, hs, _⟩⟩ := h
  · refine ⟨[l[k]], ?_, .inr ⟨k, rfl, by omega, ?_, by simp⟩⟩
    · rw [List.drop_eq_getElem_cons hk, wGo_letter hc] at he
      exact he
    · rw [show k + 1 - k = 1 by omega, List.drop_eq_getElem_cons hk]
      rfl
  · omega
theorem Mid.some_letter {l : List Nat} {k s : Nat} {pre : List (WordOf l)} (h : Mid l k (s : Int) pre) (hk : k < l.length) (hc : l[k] ≠ 32) : Mid l (k + 1) (s : Int) pre := by
  obtain ⟨cur, he, ⟨hx, rfl⟩ | ⟨s', hs, hlt, hcur, hne⟩⟩ := h
  · omega
  · obtain rfl : s = s' := by omega
    refine ⟨cur ++ [l[k]], ?_, .inr ⟨s, rfl, by omega, ?_, by simp⟩⟩
    · rw [List.drop_eq_getElem_cons hk, wGo_letter hc] at he
      exact he
    · rw [hcur, show k + 1 - s = (k - s) + 1 by omega, List.take_add_one, List.getElem?_drop, show s + (k - s) = k by omega, List.getElem?_eq_getElem hk]
      rfl
/-- A word comes: it is a word of the text, and behind it none is begun. -/
theorem Mid.some_blank {l : List Nat} {k s : Nat} {pre : List (WordOf l)} (h : Mid l k (s : Int) pre) (hk : k < l.length) (hc : l[k] = 32) :
    s < k ∧ ∃ x : WordOf l, x.1 = (l.drop s).take (k - s) ∧ Mid l (k + 1) (-1) (pre ++ [x]) ∧ pre.length < (wordsL l).length ∧ vals1 (pre ++ [x]) <+: wordsL l := by
  obtain ⟨cur, he, ⟨hx, rfl⟩ | ⟨s', hs, hlt, hcur, hne⟩⟩ := h
  · omega
  · obtain rfl : s = s' := by omega
    rw [List.drop_eq_getElem_cons hk, hc, wGo_blank, if_neg hne] at he
    have hm : cur ∈ wordsL l := by rw [← he]; simp
    have e2 : vals1 (pre ++ [⟨cur, hm⟩]) ++ wGo (l.drop (k + 1)) [] = wordsL l := Eq.trans (by simp [vals1]) he
    refine ⟨hlt, ⟨cur, hm⟩, hcur, ⟨[], e2, .inl ⟨rfl, rfl⟩⟩, ?_, ⟨_, e2⟩⟩
    rw [← he]
    simp [vals1]
theorem Mid.end_none {l : List Nat} {pre : List (WordOf l)} (h : Mid l l.length (-1) pre) : vals1 pre = wordsL l := by
  obtain ⟨cur, he, ⟨_, rfl⟩ | ⟨s, hs, _⟩⟩ := h
  · rw [List.drop_length, wGo_end, if_pos rfl, List.append_nil] at he
    exact he
  · omega
theorem Mid.end_some {l : List Nat} {s : Nat} {pre : List (WordOf l)} (h : Mid l l.length (s : Int) pre) :
    s < l.length ∧ ∃ x : WordOf l, x.1 = (l.drop s).take (l.length - s) ∧ pre.length < (wordsL l).length ∧ vals1 (pre ++ [x]) = wordsL l := by
  obtain ⟨cur, he, ⟨hx, rfl⟩ | ⟨s', hs, hlt, hcur, hne⟩⟩ := h
  · omega
  · obtain rfl : s = s' := by omega
    rw [List.drop_length, wGo_end, if_neg hne] at he
    have hm : cur ∈ wordsL l := by rw [← he]; simp
    refine ⟨hlt, ⟨cur, hm⟩, hcur, ?_, Eq.trans (by simp [vals1]) he⟩
    rw [← he]
    simp [vals1]
theorem Mid.cases {l : List Nat} {k : Nat} {st : Int} {pre : List (WordOf l)} (h : Mid l k st pre) : st = -1 ∨ ∃ s : Nat, st = (s : Int) := by
  obtain ⟨cur, he, ⟨hx, rfl⟩ | ⟨s', hs, hlt, hcur, hne⟩⟩ := h
  · exact .inl hx
  · exact .inr ⟨s', hs⟩

theorem meas_upS (n k : Nat) (h : k < n) : n - (intOf (.int .i64 ((k : Int) + 1))).toNat < n - (intOf (.int .i64 (k : Int))).toNat := by simp [intOf]; omega

set_option maxHeartbeats 2000000 in
theorem fields1_in (l : List Nat) (hl : Asc l) (hn : l.length ≤ 1000000) (n : Nat) (h1 : 1 ≤ n) (lp Bn : Nat) (J Jx : List (WordOf l) → World → Prop)
    (hY : ∀ pre (x : WordOf l) W1, J pre W1 → pre.length < (wordsL l).length → YieldAt Fence.wide (n - 1) Tryd.prog lp #[.string (str x.1)] W1 fun e W' =>
      (e = .returned (.bool true) ∧ J (pre ++ [x]) W' ∧ KeepB Bn W1 W') ∨ (e = .returned (.bool false) ∧ Jx (pre ++ [x]) W'))
    (W : World) (hB : W.heap[Bn]? = some (.cells #[.string (str l)] 9 (0, 0))) (hT : STab W) (h0 : J [] W) :
    CallsIn Fence.wide n Tryd.prog 59 #[.func (.yield lp) #[] #[], .pointer (some ⟨Bn, 0, none⟩)] W fun e W' => (∃ v, e = .returned v) ∧
      ((∃ ys, vals1 ys = wordsL l ∧ J ys W') ∨ (∃ pre, vals1 pre <+: wordsL l ∧ Jx pre W')) := by
  have hs := str_size l
  have hgs : ∀ s, str l = s → ∀ k (h : k < s.size), (s[k]'h).toNat = l[k]?.getD 0 := fun s e k h => by subst e; exact str_get hl.let h
  have hex : ∀ s, str l = s → ∀ a b, str ((l.drop a).take (b - a)) = s.extract a b := fun s e a b => by subst e; exact (str_extract l a b).symm
  obtain ⟨s, hs0⟩ : ∃ s, str l = s := ⟨_, rfl⟩
  rw [hs0] at hs hB
  have HG := hideT (hgs s hs0)
  have HX := hideT (hex s hs0)
  have HS := hideT hs
  have HL := hideT hl
  have HN := hideT hn
  have HYY := hideT hY
  clear hs0 hgs hs hex hl hn hY
  refine callsIn_of_wp Tryd.func59 rfl trivial ?_ rfl
  simp only [Tryd.ntmps59, List.size_toArray, List.length_cons, List.length_nil, Nat.reduceAdd, Nat.reduceSub, Array.replicate_succ, Array.replicate_zero, List.push_toArray, List.append_toArray, List.nil_append, List.cons_append]
  gi_wp2
  gi_loopw [3, 4] (fun st x wr => ∃ (k : Nat) (pre : List (WordOf l)) (sv : Int), st = .int .i64 sv ∧ x = .int .i64 (k : Int) ∧ k ≤ s.size ∧ Mid l k sv pre ∧ J pre wr ∧ wr.heap[Bn]? = some (.cells #[.string s] 9 (0, 0)) ∧ STab wr)
    (fun _ x _ => s.size - (intOf x).toNat)
  case atStart => exact ⟨0, [], -1, rfl, rfl, by omega, Mid.start l, h0, hB, hT⟩
  case round =>
    obtain ⟨k, pre, sv, rfl, rfl, hk, hm, hj, hb, ht⟩ := hrel
    have HM := hideT hm
    have HB := hideT hb
    have HT := hideT ht
    have hbc : wr.cell? ⟨Bn, 0, none⟩ = some (.string s) := by simp [World.cell?, hb]
    have hcs := hm.cases
    clear hm hb ht hB hT h0
    by_cases c0 : k < s.size
    · have hkl : k < l.length := by rw [← HS.out]; exact c0
      have c1 : (k : Int) < (s.size : Int) := by omega
      have G := HG.out k c0
      rw [List.getElem?_eq_getElem hkl, Option.getD_some] at G
      have w1 : wrap64 ((k : Int) + 1) = (k : Int) + 1 := by have := HN.out; unfold wrap64; omega
      have w2 : (k : Int) + 1 = ((k + 1 : Nat) : Int) := by omega
      have W2 := hideT w2
      clear w2
      by_cases h32 : l[k] = 32
      · rw [h32] at G
        have hTx : wr.cell? ⟨0, 32, none⟩ = some (.int .u8 1) := by
          have := HT.out 32 (by omega)
          rwa [space32, if_pos rfl] at this
        rcases hcs with rfl | ⟨st, rfl⟩
        · have HM2 := hideT (HM.out.none_blank hkl h32)
          clear h32 HM
          gi_wp2
          go_roundw
          case rel => exact ⟨k + 1, pre, -1, rfl, by first | rw [w1, W2.out] | rw [W2.out], by omega, HM2.out, hj, HB.out, HT.out⟩
          case measure => first | exact meas_upS s.size k c0 | (rw [w1]; exact meas_upS s.size k c0)
        · obtain ⟨hst, x, hx, hm2, hlen, hpre⟩ := HM.out.some_blank hkl h32
          have hsl := HX.out st k
          rw [← hx] at hsl
          obtain ⟨fn, tmps, assign, body, hy, hR⟩ := HYY.out pre x wr hj hlen
          rw [hsl] at hy
          have s1 : (0 : Int) ≤ (st : Int) := by omega
          have s2 : (st : Int) ≤ (k : Int) := by omega
          have s3 : (k : Int) ≤ (s.size : Int) := by omega
          have HM2 := hideT hm2
          have HP := hideT hpre
          clear h32 HM hx hsl hm2 hpre hlen
          gi_wp2
          refine hR.mono ?_
          rintro e W3 (⟨rfl, hJ3, hk3⟩ | ⟨rfl, hJx3⟩)
          · have hb3 := hk3.1.trans HB.out
            have ht3 := HT.out.of_block hk3.2
            have HB3 := hideT hb3
            have HT3 := hideT ht3
            have hbc3 : W3.cell? ⟨Bn, 0, none⟩ = some (.string s) := by simp [World.cell?, hb3]
            clear hb3 ht3 hk3
            gi_wp2
            go_roundw
            case rel => exact ⟨k + 1, pre ++ [x], -1, rfl, by first | rw [w1, W2.out] | rw [W2.out], by omega, HM2.out, hJ3, HB3.out, HT3.out⟩
            case measure => first | exact meas_upS s.size k c0 | (rw [w1]; exact meas_upS s.size k c0)
          · gi_wp2
            refine bodyPost_ret (results_none rfl _ _ _) rfl ?_
            exact ⟨⟨_, rfl⟩, .inr ⟨pre ++ [x], HP.out, hJx3⟩⟩
      · have hc2 : 33 ≤ l[k] ∧ l[k] < 128 := by
          rcases HL.out l[k] (List.getElem_mem hkl) with h | h
          · exact absurd h h32
          · exact h
        have HM2 : (sv = -1 → Hid (Mid l (k + 1) (k : Int) pre)) := fun e => by subst e; exact hideT (HM.out.none_letter hkl h32)
        have HM3 : ∀ st : Nat, sv = (st : Int) → Hid (Mid l (k + 1) (st : Int) pre) := fun st e => by subst e; exact hideT (HM.out.some_letter hkl h32)
        obtain ⟨c, hc⟩ : ∃ c, l[k] = c := ⟨_, rfl⟩
        rw [hc] at G hc2
        have hTx : wr.cell? ⟨0, c, none⟩ = some (.int .u8 0) := by
          have := HT.out c (by omega)
          rwa [no_space c hc2.2 hc2.1, if_neg (by decide)] at this
        have g1 : ¬ (128 : Int) ≤ (c : Int) := by omega
        have g2 : (c : Int) < 256 := by omega
        have g3 : (0 : Int) ≤ (c : Int) := by omega
        clear h32 HM hc
        rcases hcs with rfl | ⟨st, rfl⟩
        · have HM4 := HM2 rfl
          clear HM2 HM3
          gi_wp2
          go_roundw
          case rel => exact ⟨k + 1, pre, (k : Int), rfl, by first | rw [w1, W2.out] | rw [W2.out], by omega, HM4.out, hj, HB.out, HT.out⟩
          case measure => first | exact meas_upS s.size k c0 | (rw [w1]; exact meas_upS s.size k c0)
        · have HM4 := HM3 st rfl
          have s1 : ¬ ((st : Int) < 0) := by omega
          clear HM2 HM3
          gi_wp2
          go_roundw
          case rel => exact ⟨k + 1, pre, (st : Int), rfl, by first | rw [w1, W2.out] | rw [W2.out], by omega, HM4.out, hj, HB.out, HT.out⟩
          case measure => first | exact meas_upS s.size k c0 | (rw [w1]; exact meas_upS s.size k c0)
    · obtain rfl : k = s.size := by omega
      rcases hcs with rfl | ⟨st, rfl⟩
      · have HE := hideT (by have := HM.out; rw [HS.out] at this; exact this.end_none)
        clear HM
        gi_wp2
        go_end0
        exact ⟨⟨_, rfl⟩, .inl ⟨pre, HE.out, hj⟩⟩
      · have hm := HM.out
        rw [HS.out] at hm
        obtain ⟨hst, x, hx, hlen, hend⟩ := hm.end_some
        have hsl := HX.out st l.length
        rw [← hx, ← HS.out] at hsl
        obtain ⟨fn, tmps, assign, body, hy, hR⟩ := HYY.out pre x wr hj hlen
        rw [hsl] at hy
        have s1 : (0 : Int) ≤ (st : Int) := by omega
        have s2 : (st : Int) ≤ (s.size : Int) := by have := HS.out; omega
        have HE := hideT hend
        clear HM hx hsl hm hend hlen
        gi_wp2
        refine hR.mono ?_
        rintro e W3 (⟨rfl, hJ3, hk3⟩ | ⟨rfl, hJx3⟩)
        · gi_wp2
          go_end0
          exact ⟨⟨_, rfl⟩, .inl ⟨pre ++ [x], HE.out, hJ3⟩⟩
        · gi_wp2
          go_end0
          exact ⟨⟨_, rfl⟩, .inr ⟨pre ++ [x], by rw [HE.out]; exact List.prefix_rfl, hJx3⟩⟩
end Go.Proofs.YthggbimnjneeaaaDoor
