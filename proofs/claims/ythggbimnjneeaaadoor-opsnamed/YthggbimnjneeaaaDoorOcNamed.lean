/-
  ops.Named: the number of a name (genocnamed.py wrote it).
-/
import Derived.Test.YthggbimnjneeaaaDoorOcAll
import Derived.Test.YthggbimnjneeaaaDoorOrdersIn2
set_option linter.unusedVariables false
set_option maxRecDepth 100000
set_option linter.unusedSimpArgs false
namespace Go.Proofs.YthggbimnjneeaaaDoor
open Go.RowKit Go.Shelf Opp Opc
attribute [local go_sem] Oper.semAt_some

/-- No row of these families has the name. -/
def NoneF (s : ByteArray) (f : FamC) : Prop := ∀ x ∈ wordsL f.names, str (wholeC f.names x) ≠ s
def NoneUp (s : ByteArray) (i j : Nat) : Prop := (∀ i', i' < i → ∀ f ∈ pad (spanAt i').2.1, NoneF s f) ∧ ∀ j', j' < j → NoneF s (famAtC (spanAt i).2.1 j')
theorem NoneUp.start (s : ByteArray) : NoneUp s 0 0 := ⟨fun i' h => absurd h (by omega), fun j' h => absurd h (by omega)⟩
theorem NoneUp.next {s : ByteArray} {i j : Nat} (h : NoneUp s i j) (hf : NoneF s (famAtC (spanAt i).2.1 j)) : NoneUp s i (j + 1) :=
  ⟨h.1, fun j' hj => (Nat.lt_or_ge j' j).elim (fun h1 => h.2 j' h1) (fun h1 => (show j = j' by omega) ▸ hf)⟩
theorem NoneUp.span {s : ByteArray} {i : Nat} (hi : i < 17) (h : NoneUp s i 20) : NoneUp s (i + 1) 0 := by
  refine ⟨fun i' hi' f hf => ?_, fun j' h => absurd h (by omega)⟩
  rcases Nat.lt_or_ge i' i with h1 | h1
  · exact h.1 i' h1 f hf
  · obtain rfl : i' = i := by omega
    obtain ⟨j, hj⟩ := List.mem_iff_getElem?.1 hf
    have hp := List.all_eq_true.1 pads i' (List.mem_range.2 hi)
    rw [Nat.beq_eq] at hp
    have hjl : j < 20 := by rw [← hp]; exact (List.getElem?_eq_some_iff.1 hj).1
    rw [pad_at _ j hjl] at hj
    obtain rfl := Option.some.inj hj
    exact h.2 j hjl
theorem spansC_mem {i : Nat} {t : Nat × List FamC × Bool} (h : spansC[i]? = some t) : i < 17 ∧ spanAt i = t := by
  have hi : i < spansC.length := (List.getElem?_eq_some_iff.1 h).1
  refine ⟨hi, ?_⟩
  unfold spanAt
  rw [h]
  rfl
theorem NoneUp.none {s : ByteArray} (h : NoneUp s 17 0) : ∀ R ∈ rowsC, str R.name ≠ s := by
  intro R hR
  unfold rowsC at hR
  obtain ⟨t, ht, hR⟩ := List.mem_flatMap.1 hR
  obtain ⟨f, hf, hR⟩ := List.mem_flatMap.1 hR
  obtain ⟨n, hn, rfl⟩ := List.mem_map.1 hR
  obtain ⟨i, hi⟩ := List.mem_iff_getElem?.1 ht
  obtain ⟨hi17, he⟩ := spansC_mem hi
  have hn' := List.mem_range.1 hn
  refine h.1 i hi17 f (by rw [he]; unfold pad; exact List.mem_append_left _ hf) ((wordsL f.names)[n]?.getD []) ?_
  rw [List.getElem?_eq_getElem hn', Option.getD_some]
  exact List.getElem_mem hn'
/-- A word with that name: its number is what the table says. -/
theorem named_hit {s : ByteArray} {i j n : Nat} (hi : i < 17) (hj : j < 20) {x : List Nat} (hx : (wordsL (famAtC (spanAt i).2.1 j).names)[n]? = some x) (hs : str (wholeC (famAtC (spanAt i).2.1 j).names x) = s) : namedD s = some ((famAtC (spanAt i).2.1 j).first + n) := by
  have hn : n < (wordsL (famAtC (spanAt i).2.1 j).names).length := (List.getElem?_eq_some_iff.1 hx).1
  have hm : infoC (famAtC (spanAt i).2.1 j) (spanAt i).2.2 n ∈ rowsC := by
    unfold rowsC
    refine List.mem_flatMap.2 ⟨spanAt i, span_mem hi, List.mem_flatMap.2 ⟨famAtC (spanAt i).2.1 j, ?_, List.mem_map.2 ⟨n, List.mem_range.2 hn, rfl⟩⟩⟩
    rcases Nat.lt_or_ge j (spanAt i).2.1.length with h | h
    · unfold famAtC
      rw [List.getElem?_eq_getElem h, Option.getD_some]
      exact List.getElem_mem h
    · exfalso
      unfold famAtC at hn
      rw [List.getElem?_eq_none h] at hn
      exact absurd hn (by show ¬ n < 0; omega)
  have hnm : str (infoC (famAtC (spanAt i).2.1 j) (spanAt i).2.2 n).name = s := by
    show str (wholeC _ ((wordsL _)[n]?.getD [])) = s
    rw [hx]
    exact hs
  exact namedC_some hm hnm

/-- What Named holds: the name's box, both results, what lay. -/
structure NdI (w : World) (s : ByteArray) (r e : Int) (V : World) : Prop where
  nb : Boxed V w.heap.size 9 (.string s)
  rb : Boxed V (w.heap.size + 1) 23 (.int .u16 r)
  eb : Boxed V (w.heap.size + 1 + 1) 28 (.int .i64 e)
  bl : Below w.heap.size w V
theorem NdI.later {w V V' : World} {s : ByteArray} {r e : Int} (h : NdI w s r e V) (hb : Below V.heap.size V V') : NdI w s r e V' :=
  ⟨(hb.block _ h.nb.lt).trans h.nb, (hb.block _ h.rb.lt).trans h.rb, (hb.block _ h.eb.lt).trans h.eb, h.bl.trans (hb.mono h.bl.size)⟩
theorem NdI.kept {w V V' : World} {s : ByteArray} {r e : Int} {row : Option Nat} (h : NdI w s r e V) (hg : V.grownBy V' row) (hr : ∀ q, row = some q → w.heap.size + 3 ≤ q) : NdI w s r e V' := by
  have ne : ∀ k, k < w.heap.size + 3 → some k ≠ row := fun k hk e => by have := hr k e.symm; omega
  exact ⟨h.nb.kept hg (ne _ (by omega)), h.rb.kept hg (ne _ (by omega)), h.eb.kept hg (ne _ (by omega)), h.bl.grown hg h.bl.size (fun k e => by have := hr k e; omega)⟩
theorem NdI.set {w V : World} {s : ByteArray} {r e : Int} (h : NdI w s r e V) (r' e' : Int) : NdI w s r' e' ((V.setCell ⟨w.heap.size + 1, 0, none⟩ (.int .u16 r')).setCell ⟨w.heap.size + 1 + 1, 0, none⟩ (.int .i64 e')) :=
  ⟨(h.nb.other (by omega) _).other (by omega) _, (h.rb.set _).other (by omega) _, (h.eb.other (by omega) _).set _, (h.bl.setCell (p := ⟨w.heap.size + 1, 0, none⟩) (by simp) _).setCell (p := ⟨w.heap.size + 1 + 1, 0, none⟩) (by simp; omega) _⟩
/-- Between two words. -/
structure NdJ (w : World) (s : ByteArray) (C : Array Value) (gf m N : Nat) (Ds : List Nat) (V : World) : Prop where
  nd : NdI w s 0 0 V
  fam : V.heap[gf]? = some (.cells C 46 (0, 0))
  ob : Boxed V (gf + 1) 23 (.int .u16 (m : Int))
  op : Open (w.heap.size + 3) V Ds
  sz : N ≤ V.heap.size
theorem NdJ.kept {w V V' : World} {s : ByteArray} {C : Array Value} {gf m N : Nat} {Ds : List Nat} {row : Option Nat} (h : NdJ w s C gf m N Ds V) (h1 : w.heap.size + 3 ≤ N) (h2 : gf + 1 < N) (hD : ∀ D ∈ Ds, D < N) (hg : V.grownBy V' row)
    (hr : ∀ r, row = some r → N ≤ r) : NdJ w s C gf m N Ds V' :=
  ⟨h.nd.kept hg (fun r e => by have := hr r e; omega), (hg.block _ (Array.getElem?_eq_some_iff.1 h.fam).1 (fun e => by have := hr _ e.symm; omega)).trans h.fam, h.ob.kept hg (fun e => by have := hr _ e.symm; omega), h.op.kept hD hg hr, Nat.le_trans h.sz hg.size⟩
theorem NdJ.later {w V V' : World} {s : ByteArray} {C : Array Value} {gf m N : Nat} {Ds : List Nat} (h : NdJ w s C gf m N Ds V) (hb : Below V.heap.size V V') : NdJ w s C gf m N Ds V' :=
  ⟨h.nd.later hb, (hb.block _ (Array.getElem?_eq_some_iff.1 h.fam).1).trans h.fam, (hb.block _ h.ob.lt).trans h.ob, h.op.later hb, Nat.le_trans h.sz hb.size⟩

theorem suffix_of_eq {a b : ByteArray} (c : List Nat) (h : str c = a) (part : List Nat) (hb : str part = b) (hs : ∃ p, c = p ++ part) : (decide (b.size ≤ a.size) && (a.extract (a.size - b.size) a.size).toList == b.toList) = true := by
  obtain ⟨p, rfl⟩ := hs
  subst h
  subst hb
  have h1 : (str part).size ≤ (str (p ++ part)).size := by rw [str_size, str_size]; simp
  rw [decide_eq_true h1, Bool.true_and, str_size, str_size, str_extract]
  have e : ((p ++ part).drop ((p ++ part).length - part.length)).take ((p ++ part).length - ((p ++ part).length - part.length)) = part := by
    have h2 : (p ++ part).length - part.length = p.length := by simp
    rw [h2, List.drop_left]
    exact List.take_of_length_le (by simp)
  rw [e]
  simp
theorem whole_suffix (names part : List Nat) : ∃ p, wholeC names part = p ++ part := by
  unfold wholeC
  split
  · exact ⟨[], rfl⟩
  · exact ⟨headC names ++ [46], rfl⟩
theorem eq_toList (a b : ByteArray) : (a.toList == b.toList) = decide (a = b) := by
  by_cases h : a = b
  · subst h
    simp
  · rw [decide_eq_false h]
    refine beq_eq_false_iff_ne.2 fun e => h ?_
    rw [ByteArray.toList_eq, ByteArray.toList_eq] at e
    exact ByteArray.ext (Array.ext' e)

/-- The region that holds the suffix and the name against each other: what its slots hold, once the operations of d were carried out. -/
def NdR (s part whole : ByteArray) (F : Value) (b q : Bool) (V0 : World) (d : Nat → Bool) (vs : List Value) (w : World) : Prop :=
  (d 0 = true → (vs[0]?.getD undef) = .string s) ∧ (d 1 = true → (vs[1]?.getD undef) = .string part) ∧ (d 2 = true → (vs[2]?.getD undef) = .bool b) ∧ (d 3 = true → (vs[3]?.getD undef) = .bool b) ∧
  (d 4 = true → b = true → (vs[4]?.getD undef) = F) ∧ (d 5 = true → b = true → (vs[5]?.getD undef) = .string part) ∧ (d 6 = true → b = true → (vs[6]?.getD undef) = .string whole) ∧
  (d 7 = true → b = true → (vs[7]?.getD undef) = .string s) ∧ (d 8 = true → b = true → (vs[8]?.getD undef) = .bool q) ∧ (d 9 = true → (vs[9]?.getD undef) = .bool (b && q)) ∧ Below V0.heap.size V0 w

set_option maxHeartbeats 16000000 in
theorem okNamed : TNamedOK := by
  intro s w hsz hT
  refine (callsIn_wide (n := 8)).1 ?_
  have HT := hideT hT
  have HSZ := hideT hsz
  obtain ⟨w1, hw1⟩ : ∃ x, ((w.alloc (.cells #[.string s] 9)).alloc (.cells #[.int .u16 0] 23)).alloc (.cells #[.int .i64 0] 28) = x := ⟨_, rfl⟩
  have A1 := hideT (show NdI w s 0 0 w1 by
    rw [← hw1]
    have e0 := Boxed.new w 9 (.string s)
    have e1 := Boxed.new (w.alloc (.cells #[.string s] 9)) 23 (.int .u16 0)
    have e2 := Boxed.new ((w.alloc (.cells #[.string s] 9)).alloc (.cells #[.int .u16 0] 23)) 28 (.int .i64 0)
    simp only [World.size_alloc] at e1 e2
    exact ⟨(e0.alloc _).alloc _, e1.alloc _, e2, (((Below.refl _ w).alloc (Nat.le_refl _) _).alloc (by simp) _).alloc (by simp; omega) _⟩)
  have HW1 := hideT hw1
  have CS := (fun V => callsIn_wide (n := 7) |>.2 (spans_calls V))
  have XI := hideT (fun (i : Nat) (hi : i < 17) V => span_index hi V)
  have XF := hideT (fun (l : List FamC) (j : Nat) (hj : j < 20) V => fam_index (l := l) hj V)
  obtain ⟨S, hS⟩ : ∃ S, spansCC.toArray = S := ⟨_, rfl⟩
  simp only [hS] at CS XI
  have CS := hideT CS
  clear hw1 hT hS hsz
  refine callsIn_of_wp_marks Tryd.func13 rfl trivial ?_ rfl
  simp only [Tryd.ntmps13, List.size_toArray, List.length_cons, List.length_nil, Nat.reduceAdd, Nat.reduceSub, Array.replicate_succ, Array.replicate_zero, List.push_toArray, List.append_toArray, List.nil_append, List.cons_append]
  gi_wp2_with fail
  rw [HW1.out]
  refine ⟨trivial, (CS.out _).mono ?_⟩
  rintro e w2 ⟨rfl, hw2⟩
  have A2 := hideT (A1.out.later (V' := w2) (by rw [hw2]; exact (Below.refl _ _).alloc (Nat.le_refl _) _))
  clear hw2 A1 HW1 CS
  dsimp only
  gi_wp2_with fail
  refine wpIn_loop (fun a V => ∃ u4 u5 u6 u7 u8 u9 u12 u13 u14 u15 u16 u17 u18 u19 u20 u21 u22 u23 u24 u25 u26 u27 u28 u29 u30 u31 u32 u33 u34 u35 u36 u37 u38 u39 u40, ∃ (i : Nat) (Ds : List Nat), a = { tmps := #[.string s, .pointer (some ⟨w.heap.size, 0, none⟩), .pointer (some ⟨w.heap.size + 1, 0, none⟩), .pointer (some ⟨w.heap.size + 1 + 1, 0, none⟩), u4, u5, u6, u7, u8, u9, .agg S, .int .i64 (i : Int), u12, u13, u14, u15, u16, u17, u18, u19, u20, u21, u22, u23, u24, u25, u26, u27, u28, u29, u30, u31, u32, u33, u34, u35, u36, u37, u38, u39, u40], defers := Ds.map markOf } ∧ i ≤ 17 ∧ NdI w s 0 0 V ∧ NoneUp s i 0 ∧ Open (w.heap.size + 3) V Ds) (fun a _ => 17 - (intOf (a.tmps.getD 11 undef)).toNat) ?_ ?_
  · exact ⟨_, _, _, _, _, _, _, _, _, _, _, _, _, _, _, _, _, _, _, _, _, _, _, _, _, _, _, _, _, _, _, _, _, _, _, 0, [], rfl, by omega, A2.out, NoneUp.start s, Open.nil _ _⟩
  · rintro a V ⟨u4, u5, u6, u7, u8, u9, u12, u13, u14, u15, u16, u17, u18, u19, u20, u21, u22, u23, u24, u25, u26, u27, u28, u29, u30, u31, u32, u33, u34, u35, u36, u37, u38, u39, u40, i, Ds, rfl, hi, hA, hno, hO⟩
    have HA := hideT hA
    have HO := hideT hO
    have HNO := hideT hno
    clear hA hO A2 hno
    by_cases c0 : i < 17
    · have c1 : (i : Int) < 17 := by omega
      have hx := XI.out i c0
      have CF := hideT (fun V => callsIn_wide (n := 7) |>.2 (fam_at c0 V))
      have ef := fam_enters c0
      have FO := hideT (fun j => famAt_ok c0 j)
      have HIT := hideT (fun (j n : Nat) (hj : j < 20) (x : List Nat) hx hs => named_hit (s := s) (n := n) c0 hj (x := x) hx hs)
      have NXT := hideT (fun j (h : NoneUp s i j) hf => h.next (j := j) hf)
      have SPN := hideT (fun (h : NoneUp s i 20) => h.span c0)
      obtain ⟨l, hl⟩ : ∃ l, (spanAt i).2.1 = l := ⟨_, rfl⟩
      unfold listVC at CF
      simp only [hl] at CF FO HIT NXT
      have XL := hideT (XF.out l)
      obtain ⟨C, hC⟩ : ∃ C, (listCC l).toArray = C := ⟨_, rfl⟩
      simp only [hC] at CF XL
      have CF := hideT CF.out
      have HC0 := hideT c0
      generalize (spanAt i).1 = si at *
      generalize (spanAt i).2.2 = pl at *
      generalize fnAt i = k at *
      clear hl hC
      have w1' : wrap64 ((i : Int) + 1) = ((i + 1 : Nat) : Int) := by unfold wrap64; omega
      obtain ⟨va, hva⟩ : ∃ x, V.alloc (.cells #[.int .u16 (si : Int), .bool pl, .func (.func k) #[] #[]] 43) = x := ⟨_, rfl⟩
      have A3 := hideT (HA.out.later (V' := va) (by rw [← hva]; exact (Below.refl _ _).alloc (Nat.le_refl _) _))
      have O3 := hideT (HO.out.later (V' := va) (by rw [← hva]; exact (Below.refl _ _).alloc (Nat.le_refl _) _))
      have K3 := hideT (show va.heap[V.heap.size]? = some (.cells #[.int .u16 (si : Int), .bool pl, .func (.func k) #[] #[]] 43 (0, 0)) by rw [← hva]; exact heap_alloc_new V _)
      have c2 : va.cell? ⟨V.heap.size, 2, none⟩ = some (.func (.func k) #[] #[]) := by simp [World.cell?, K3.out]
      have HVA := hideT hva
      rw [← hva] at c2
      clear hva c0
      gi_wp2_with (refine wpListIn_store_row rfl 43 (.tmp 5) (.tmp 13) rfl V.heap.size #[.int .u16 (si : Int), .bool pl, .func (.func k) #[] #[]] rfl rfl 43 _ (heap_alloc_new V _) span_info rfl (span_one _ _ _) ?_; rw [World.setRow_alloc_new])
      rw [HVA.out]
      refine ⟨trivial, (CF.out _).mono ?_⟩
      rintro e vb ⟨rfl, hvb⟩
      have A4 := hideT (A3.out.later (V' := vb) (by rw [hvb]; exact (Below.refl _ _).alloc (Nat.le_refl _) _))
      have O4 := hideT (O3.out.later (V' := vb) (by rw [hvb]; exact (Below.refl _ _).alloc (Nat.le_refl _) _))
      clear hvb A3 O3 K3 CF c2 hx ef
      dsimp only
      gi_wp2_with fail
      refine wpIn_loop (fun a V => ∃ u4 u5 u6 u7 u8 u9 u12 u13 u14 u15 u18 u19 u20 u21 u22 u23 u24 u25 u26 u27 u28 u29 u30 u31 u32 u33 u34 u35 u36 u37 u38 u39 u40, ∃ (j : Nat) (Ds : List Nat), a = { tmps := #[.string s, .pointer (some ⟨w.heap.size, 0, none⟩), .pointer (some ⟨w.heap.size + 1, 0, none⟩), .pointer (some ⟨w.heap.size + 1 + 1, 0, none⟩), u4, u5, u6, u7, u8, u9, .agg S, .int .i64 (i : Int), u12, u13, u14, u15, .agg C, .int .i64 (j : Int), u18, u19, u20, u21, u22, u23, u24, u25, u26, u27, u28, u29, u30, u31, u32, u33, u34, u35, u36, u37, u38, u39, u40], defers := Ds.map markOf } ∧ j ≤ 20 ∧ NdI w s 0 0 V ∧ NoneUp s i j ∧ Open (w.heap.size + 3) V Ds) (fun a _ => 20 - (intOf (a.tmps.getD 17 undef)).toNat) ?_ ?_
      · exact ⟨_, _, _, _, _, _, _, _, _, _, _, _, _, _, _, _, _, _, _, _, _, _, _, _, _, _, _, _, _, _, _, _, _, 0, Ds, rfl, by omega, A4.out, HNO.out, O4.out⟩
      · clear A4 O4 HA HO HNO
        rintro a V ⟨u4, u5, u6, u7, u8, u9, u12, u13, u14, u15, u18, u19, u20, u21, u22, u23, u24, u25, u26, u27, u28, u29, u30, u31, u32, u33, u34, u35, u36, u37, u38, u39, u40, j, Ds, rfl, hj, hA, hno, hO⟩
        have HA := hideT hA
        have HO := hideT hO
        have HNO := hideT hno
        clear hA hO hno
        by_cases c0 : j < 20
        · have c1 : (j : Int) < 20 := by omega
          have w2' : wrap64 ((j : Int) + 1) = ((j + 1 : Nat) : Int) := by unfold wrap64; omega
          have hx := XL.out j c0
          have F := FO.out j
          have HITJ := hideT (fun n x => HIT.out j n c0 x)
          have NXTJ := hideT (NXT.out j HNO.out)
          have HJ := hideT c0
          generalize famAtC l j = f at *
          have CW := hideT (fun (x : WordOf f.names) V => whole_calls f x.1 F.asc.let F.len (word_let F.asc.let x) (Nat.le_trans (word_len x) F.len) V)
          obtain ⟨fi, fn, ft, im, bi⟩ := f
          unfold famVC at CW
          unfold famCC at hx CW
          simp only at hx CW HITJ NXTJ
          have HF := hideT F
          have fits := F.fits
          simp only at fits
          have FITS := hideT fits
          clear c0 F fits w1'
          generalize str ft = ty at *
          obtain ⟨gf, hgf⟩ : ∃ g, V.heap.size = g := ⟨_, rfl⟩
          obtain ⟨va, hva⟩ : ∃ x, V.alloc (.cells #[.int .u16 (fi : Int), .string (str fn), .string ty, .int .u8 (im : Int), .int .i64 (bi : Int)] 46) = x := ⟨_, rfl⟩
          obtain ⟨vb, hvb⟩ : ∃ x, va.alloc (.cells #[.int .u16 (fi : Int)] 23) = x := ⟨_, rfl⟩
          obtain ⟨vc, hvc⟩ : ∃ x, vb.alloc (.cells #[.string (str fn)] 9) = x := ⟨_, rfl⟩
          have sa : va.heap.size = gf + 1 := by rw [← hva, ← hgf]; simp
          have sb : vb.heap.size = gf + 2 := by rw [← hvb]; simp; omega
          have sc : vc.heap.size = gf + 3 := by rw [← hvc]; simp; omega
          have Bc : Below V.heap.size V vc := by
            rw [← hvc, ← hvb, ← hva]
            exact (((Below.refl _ V).alloc (Nat.le_refl _) _).alloc (by simp) _).alloc (by simp; omega) _
          have ka : va.heap[gf]? = some (.cells #[.int .u16 (fi : Int), .string (str fn), .string ty, .int .u8 (im : Int), .int .i64 (bi : Int)] 46 (0, 0)) := by rw [← hva, ← hgf]; exact heap_alloc_new V _
          have d0 : va.cell? ⟨gf, 0, none⟩ = some (.int .u16 (fi : Int)) := by simp [World.cell?, ka]
          have kb : vb.heap[gf]? = some (.cells #[.int .u16 (fi : Int), .string (str fn), .string ty, .int .u8 (im : Int), .int .i64 (bi : Int)] 46 (0, 0)) := by rw [← hvb]; exact (((Below.refl va.heap.size va).alloc (Nat.le_refl _) _).block gf (by omega)).trans ka
          have kc : vc.heap[gf]? = some (.cells #[.int .u16 (fi : Int), .string (str fn), .string ty, .int .u8 (im : Int), .int .i64 (bi : Int)] 46 (0, 0)) := by rw [← hvc]; exact (((Below.refl vb.heap.size vb).alloc (Nat.le_refl _) _).block gf (by omega)).trans kb
          have d1 : vb.cell? ⟨gf, 1, none⟩ = some (.string (str fn)) := by simp [World.cell?, kb]
          have bo : Boxed vb (gf + 1) 23 (.int .u16 (fi : Int)) := by rw [← hvb, ← sa]; exact Boxed.new va _ _
          have boc : Boxed vc (gf + 1) 23 (.int .u16 (fi : Int)) := by rw [← hvc]; exact bo.alloc _
          have ksc : vc.heap[gf + 2]? = some (.cells #[.string (str fn)] 9 (0, 0)) := by rw [← hvc, ← sb]; exact heap_alloc_new vb _
          have AC := hideT (HA.out.later Bc)
          have OC := hideT (HO.out.later Bc)
          have ODC := hideT (fun D (hD : D ∈ Ds) => show D < gf from by rw [← hgf]; exact HO.out.lt hD)
          have WLT := hideT (show w.heap.size + 1 + 1 < gf by rw [← hgf]; exact HA.out.eb.lt)
          have SC := hideT sc
          have BOC := hideT boc
          have KSC := hideT ksc
          have KC := hideT kc
          have TC := hideT ((HT.out.later HA.out.bl).later Bc)
          have HVA := hideT hva
          have HVB := hideT hvb
          have HVC := hideT hvc
          have HGF := hideT hgf
          have SA := hideT sa
          have SB := hideT sb
          rw [← hvb] at d1
          clear sc boc ksc Bc ka kb kc bo hva hvb hvc HA HO
          gi_wp2_with (refine wpListIn_store_row rfl 46 (.tmp 7) (.tmp 19) rfl V.heap.size #[.int .u16 (fi : Int), .string (str fn), .string ty, .int .u8 (im : Int), .int .i64 (bi : Int)] rfl rfl 46 _ (heap_alloc_new V _) fam_info rfl (fam_one _ _ _ _ _) ?_; rw [World.setRow_alloc_new, HVA.out, HGF.out])
          rw [HVA.out, HVB.out]
          refine ⟨trivial, (callsIn_wide.2 (fieldsSeq_calls _ _)).mono ?_⟩
          rintro e w' ⟨rfl, hw'⟩
          rw [HVC.out] at hw'
          subst w'
          clear d0 d1 hx
          dsimp only
          rw [SB.out]
          gi_wp2_with fail
          have hlt0 : 0 < w.heap.size := HT.out.lt
          have HL0 := hideT hlt0
          clear hlt0
          refine wpIn_rangeFunc_ownG rfl (by decide) (gf := 59) (lb := #[.pointer (some ⟨gf + 2, 0, none⟩)]) rfl trivial (enters_of Tryd.func59 (by kernel_rfl) rfl)
            (fields_stops fn HF.out.asc HF.out.len _ (by decide) (gf + 2) vc KSC.out TC.out) KeepB.trans (keepB_b (by have := SC.out; omega) TC.out.lt) (Below.refl _ _) (fun _ => rfl)
            (fun pre V' => NdJ w s #[.int .u16 (fi : Int), .string (str fn), .string ty, .int .u8 (im : Int), .int .i64 (bi : Int)] gf (fi + pre.length) (gf + 3) Ds V' ∧ ∀ x ∈ pre, str (wholeC fn x.1) ≠ s)
            (fun c pre V' => ∃ (p : List (WordOf fn)) (x : WordOf fn), c = .ret ∧ pre = p ++ [x] ∧ str (wholeC fn x.1) = s ∧ NdI w s ((fi + p.length : Nat) : Int) 0 V' ∧ Open (w.heap.size + 3) V' Ds)
            (fun s' A B row hs hg hr => ⟨hs.1.kept (by have := WLT.out; omega) (by omega) (fun D hD => by have := ODC.out D hD; omega) hg (fun r e => by have := (hr r e).1; have := SC.out; omega), hs.2⟩)
            (fun c s' A B row hs hg hr => by
              obtain ⟨p, x, e1, e2, e3, e4, e5⟩ := hs
              exact ⟨p, x, e1, e2, e3, e4.kept hg (fun r e => by have := (hr r e).1; have := SC.out; have := WLT.out; omega), e5.kept (C := vc.heap.size) (fun D hD => by have := ODC.out D hD; have := SC.out; omega) hg (fun r e => (hr r e).1)⟩)
            ⟨⟨AC.out, KC.out, by simpa using BOC.out, OC.out, by have := SC.out; omega⟩, fun x hx => by cases hx⟩
            (fun x => { tmps := #[.string s, .pointer (some ⟨w.heap.size, 0, none⟩), .pointer (some ⟨w.heap.size + 1, 0, none⟩), .pointer (some ⟨w.heap.size + 1 + 1, 0, none⟩), u4, u5, u6, .pointer (some ⟨gf, 0, none⟩), .pointer (some ⟨gf + 1, 0, none⟩), .string (str x.1), .agg S, .int .i64 (i : Int), u12, u13, u14, u15, .agg C, .int .i64 (j : Int), .bool true, .agg #[.int .u16 (fi : Int), .string (str fn), .string ty, .int .u8 (im : Int), .int .i64 (bi : Int)], .pointer (some ⟨gf, 0, none⟩), .int .u16 (fi : Int), .pointer (some ⟨gf, 1, none⟩), .string (str fn), .func (.func 59) #[] #[.pointer (some ⟨gf + 2, 0, none⟩)], .string (str x.1), u26, u27, u28, u29, u30, u31, u32, u33, u34, u35, u36, u37, u38, u39, u40], defers := [] }) ?assign ?body ?done ?stop
          case assign =>
            intro l x V' K hK
            gi_wp2
            exact hK
          case body =>
            rintro l' pre x V' ⟨⟨hnd, hfam, hob, hop, hsz⟩, hnone⟩ hlen
            have cn := hnd.nb.cell
            have f0 : V'.cell? ⟨gf, 0, none⟩ = some (.int .u16 (fi : Int)) := by simp [World.cell?, hfam]
            have f1 : V'.cell? ⟨gf, 1, none⟩ = some (.string (str fn)) := by simp [World.cell?, hfam]
            have f2 : V'.cell? ⟨gf, 2, none⟩ = some (.string ty) := by simp [World.cell?, hfam]
            have f3 : V'.cell? ⟨gf, 3, none⟩ = some (.int .u8 (im : Int)) := by simp [World.cell?, hfam]
            have f4 : V'.cell? ⟨gf, 4, none⟩ = some (.int .i64 (bi : Int)) := by simp [World.cell?, hfam]
            have hmf : fi + pre.length + 1 < 65536 := by have := FITS.out; omega
            obtain ⟨m, hm⟩ : ∃ m, fi + pre.length = m := ⟨_, rfl⟩
            rw [hm] at hob hmf
            have HM := hideT hm
            have HND := hideT hnd
            have HJJ := hideT (show NdJ w s #[.int .u16 (fi : Int), .string (str fn), .string ty, .int .u8 (im : Int), .int .i64 (bi : Int)] gf m (gf + 3) Ds V' from ⟨hnd, hfam, hob, hop, hsz⟩)
            have HNONE := hideT hnone
            have HMF := hideT hmf
            have CSX := hideT (fun W => callsIn_wide (n := 5) |>.2 (hassuffix_calls s (str x.1) HSZ.out (by rw [str_size]; exact Nat.le_trans (word_len x) HF.out.len) W))
            have mixed : Tryd.prog.follows .mixedOrders = true := by kernel_rfl
            clear hm hnd hfam hob hop hsz hnone hmf hlen
            obtain ⟨b, hbq⟩ : ∃ b, (decide ((str x.1).size ≤ s.size) && (s.extract (s.size - (str x.1).size) s.size).toList == (str x.1).toList) = b := ⟨_, rfl⟩
            obtain ⟨q, hq⟩ : ∃ q, ((str (wholeC fn x.1)).toList == s.toList) = q := ⟨_, rfl⟩
            have hdq : (b && q) = decide (str (wholeC fn x.1) = s) := by
              rw [← hq, eq_toList, ← hbq]
              by_cases e : str (wholeC fn x.1) = s
              · rw [suffix_of_eq (wholeC fn x.1) e x.1 rfl (whole_suffix fn x.1), Bool.true_and]
              · rw [decide_eq_false e, Bool.and_false]
            rw [hbq] at CSX
            have HDQ := hideT hdq
            have HQ := hideT hq
            have CWX := hideT (fun W => callsIn_wide (n := 5) |>.2 (CW.out x W))
            obtain ⟨pt, hpt⟩ : ∃ z, str x.1 = z := ⟨_, rfl⟩
            obtain ⟨wh, hwh⟩ : ∃ z, str (wholeC fn x.1) = z := ⟨_, rfl⟩
            have HWH := hideT hwh
            rw [hpt] at CSX CWX
            rw [hwh] at CWX HDQ HQ
            have CSX := hideT CSX.out
            have CWX := hideT CWX.out
            rw [hpt]
            clear hbq hq hdq hwh hpt CW cn f0 f1 f2 f3 f4
            gi_wp2_with fail
            refine wpIn_region_par [26, 27, 28, 29, 30, 31, 32, 33, 34, 35] (NdR s pt wh (.agg #[.int .u16 (fi : Int), .string (str fn), .string ty, .int .u8 (im : Int), .int .i64 (bi : Int)]) b q V') mixed (by kernel_rfl) ?_ ?_ ?_
            · intro vs
              exact ⟨(fun h => by cases h), (fun h => by cases h), (fun h => by cases h), (fun h => by cases h), (fun h => by cases h), (fun h => by cases h), (fun h => by cases h), (fun h => by cases h), (fun h => by cases h), (fun h => by cases h), (Below.refl _ _).drew⟩
            · intro d vs wz hd hl hJ
              match vs, hl with
              | [x0, x1, x2, x3, x4, x5, x6, x7, x8, x9], _ =>
              obtain ⟨j0, j1, j2, j3, j4, j5, j6, j7, j8, j9, jb⟩ := hJ
              simp only [List.getElem?_cons_zero, List.getElem?_cons_succ, Option.some.injEq, Option.getD_some] at j0 j1 j2 j3 j4 j5 j6 j7 j8 j9
              obtain rfl := j0 (hd 0 (by decide))
              obtain rfl := j1 (hd 1 (by decide))
              obtain rfl := j2 (hd 2 (by decide))
              obtain rfl := j3 (hd 3 (by decide))
              obtain rfl := j9 (hd 9 (by decide))
              have HJ2 := hideT (HJJ.out.later jb)
              have HKF := hideT (below_keeps (B := vc.heap.size) jb)
              have HBZ := hideT jb
              have co := HJ2.out.ob.cell
              have zo := HJ2.out.ob.frozen
              clear hd hl j0 j1 j2 j3 j4 j5 j6 j7 j8 j9 jb
              simp only [putL, Act.put, List.setIfInBounds_toArray, List.set_cons_succ, List.set_cons_zero]
              by_cases heq : wh = s
              · have hdt : (b && q) = true := by rw [HDQ.out, decide_eq_true heq]
                rw [hdt]
                have HEQ := hideT heq
                have cr := HJ2.out.nd.rb.cell
                have zr := HJ2.out.nd.rb.frozen
                have ce := HJ2.out.nd.eb.cell
                have ze := HJ2.out.nd.eb.frozen
                clear heq hdt zo
                gi_wp2
                exact ⟨HKF.out.trans (((KeepsOthers.setCell _ _ _).trans (KeepsOthers.setCell _ _ _)).from _), pre, x, rfl, rfl, by rw [HWH.out]; exact HEQ.out, by rw [HM.out]; exact HJ2.out.nd.set _ _, HJ2.out.op.others ((KeepsOthers.setCell _ _ _).trans (KeepsOthers.setCell _ _ _))⟩
              · have hdt : (b && q) = false := by rw [HDQ.out, decide_eq_false heq]
                rw [hdt]
                have HNE := hideT heq
                have hw := wrap16_up m HMF.out
                clear heq hdt
                gi_wp2
                have s1 := HJ2.out.sz
                have s2 := HL0.out
                have wl := WLT.out
                have hk1 := KeepB.below (Bn := gf + 2) HBZ.out (by have := HJJ.out.sz; omega) (by have := HJJ.out.nd.nb.lt; omega)
                refine ⟨HKF.out.trans ((KeepsOthers.setCell _ _ _).from _), KeepB.trans hk1 (KeepB.setCell _ _ (by omega) (by omega)), ⟨HJ2.out.nd.kept (grownBy_setCell' _ (gf + 1) _) (fun r e => by cases e; omega), ?_, ?_, HJ2.out.op.others (KeepsOthers.setCell _ _ _), Nat.le_trans s1 (KeepsOthers.setCell _ _ _).size⟩, ?_⟩
                · exact (Below.heap_setCell _ _ _ _ (by show gf ≠ gf + 1; omega)).trans HJ2.out.fam
                · have e1 : fi + (pre ++ [x]).length = m + 1 := by have := HM.out; simp; omega
                  rw [e1]
                  exact HJ2.out.ob.set _
                · intro y hy
                  rcases List.mem_append.1 hy with h | h
                  · exact HNONE.out y h
                  · rcases List.mem_singleton.1 h with rfl
                    rw [HWH.out]
                    exact HNE.out
            · intro i' o' ho' d vs wr hl hJ hi' hw'
              match vs, hl with
              | [x0, x1, x2, x3, x4, x5, x6, x7, x8, x9], _ =>
              have hin : i' < 10 := (List.getElem?_eq_some_iff.1 ho').1
              obtain ⟨j0, j1, j2, j3, j4, j5, j6, j7, j8, j9, jb⟩ := hJ
              simp only [List.getElem?_cons_zero, List.getElem?_cons_succ, Option.some.injEq, Option.getD_some] at j0 j1 j2 j3 j4 j5 j6 j7 j8 j9
              have HJ2 := hideT (HJJ.out.later jb)
              rcases (show i' = 0 ∨ i' = 1 ∨ i' = 2 ∨ i' = 3 ∨ i' = 4 ∨ i' = 5 ∨ i' = 6 ∨ i' = 7 ∨ i' = 8 ∨ i' = 9 by omega) with rfl | rfl | rfl | rfl | rfl | rfl | rfl | rfl | rfl | rfl
              · simp only [List.getElem?_cons_zero, List.getElem?_cons_succ, Option.some.injEq] at ho'
                subst ho'
                have hc := HJ2.out.nd.nb.cell
                simp only [putL, Act.put, List.setIfInBounds_toArray, List.set_cons_succ, List.set_cons_zero]
                gi_wp2
                exact ⟨rfl, [_, x1, x2, x3, x4, x5, x6, x7, x8, x9], rfl, (by simp only [putL, Act.put, List.setIfInBounds_toArray, List.set_cons_succ, List.set_cons_zero]), (fun _ => rfl), j1, j2, j3, j4, j5, j6, j7, j8, j9, jb⟩
              · simp only [List.getElem?_cons_zero, List.getElem?_cons_succ, Option.some.injEq] at ho'
                subst ho'
                simp only [putL, Act.put, List.setIfInBounds_toArray, List.set_cons_succ, List.set_cons_zero]
                gi_wp2
                exact ⟨rfl, [x0, _, x2, x3, x4, x5, x6, x7, x8, x9], rfl, (by simp only [putL, Act.put, List.setIfInBounds_toArray, List.set_cons_succ, List.set_cons_zero]), j0, (fun _ => rfl), j2, j3, j4, j5, j6, j7, j8, j9, jb⟩
              · simp only [List.getElem?_cons_zero, List.getElem?_cons_succ, Option.some.injEq] at ho'
                subst ho'
                have hd0 : d 0 = true := List.all_eq_true.1 hw' 0 (by decide)
                have hd1 : d 1 = true := List.all_eq_true.1 hw' 1 (by decide)
                obtain rfl := j0 hd0
                obtain rfl := j1 hd1
                simp only [putL, Act.put, List.setIfInBounds_toArray, List.set_cons_succ, List.set_cons_zero]
                gi_wp2_with fail
                refine ⟨trivial, (CallsIn.inRound l' (CSX.out _)).mono ?_⟩
                rintro e w' ⟨rfl, rfl⟩
                dsimp only
                gi_wp2
                exact ⟨rfl, [.string s, .string pt, .bool b, x3, x4, x5, x6, x7, x8, x9], rfl, (by simp only [putL, Act.put, List.setIfInBounds_toArray, List.set_cons_succ, List.set_cons_zero]), (fun _ => rfl), (fun _ => rfl), (fun _ => rfl), j3, j4, j5, j6, j7, j8, j9, jb⟩
              · simp only [List.getElem?_cons_zero, List.getElem?_cons_succ, Option.some.injEq] at ho'
                subst ho'
                have hd2 : d 2 = true := List.all_eq_true.1 hw' 2 (by decide)
                obtain rfl := j2 hd2
                simp only [putL, Act.put, List.setIfInBounds_toArray, List.set_cons_succ, List.set_cons_zero]
                gi_wp2
                exact ⟨rfl, [x0, x1, .bool b, .bool b, x4, x5, x6, x7, x8, x9], rfl, (by simp only [putL, Act.put, List.setIfInBounds_toArray, List.set_cons_succ, List.set_cons_zero]), j0, j1, (fun _ => rfl), (fun _ => rfl), j4, j5, j6, j7, j8, j9, jb⟩
              · simp only [List.getElem?_cons_zero, List.getElem?_cons_succ, Option.some.injEq] at ho'
                subst ho'
                have hd3 : d 3 = true := List.all_eq_true.1 hw' 3 (by decide)
                obtain rfl := j3 hd3
                cases b with
                | false =>
                  simp only [putL, Act.put, List.setIfInBounds_toArray, List.set_cons_succ, List.set_cons_zero]
                  gi_wp2
                  exact ⟨rfl, [x0, x1, x2, .bool false, undef, x5, x6, x7, x8, x9], rfl, (by simp only [putL, Act.put, List.setIfInBounds_toArray, List.set_cons_succ, List.set_cons_zero]), j0, j1, j2, (fun _ => rfl), (fun _ h => by cases h), j5, j6, j7, j8, j9, jb⟩
                | true =>
                  have f0 : wr.cell? ⟨gf, 0, none⟩ = some (.int .u16 (fi : Int)) := by simp [World.cell?, HJ2.out.fam]
                  have f1 : wr.cell? ⟨gf, 1, none⟩ = some (.string (str fn)) := by simp [World.cell?, HJ2.out.fam]
                  have f2 : wr.cell? ⟨gf, 2, none⟩ = some (.string ty) := by simp [World.cell?, HJ2.out.fam]
                  have f3 : wr.cell? ⟨gf, 3, none⟩ = some (.int .u8 (im : Int)) := by simp [World.cell?, HJ2.out.fam]
                  have f4 : wr.cell? ⟨gf, 4, none⟩ = some (.int .i64 (bi : Int)) := by simp [World.cell?, HJ2.out.fam]
                  simp only [putL, Act.put, List.setIfInBounds_toArray, List.set_cons_succ, List.set_cons_zero]
                  gi_wp2
                  exact ⟨rfl, [x0, x1, x2, .bool true, _, x5, x6, x7, x8, x9], rfl, (by simp only [putL, Act.put, List.setIfInBounds_toArray, List.set_cons_succ, List.set_cons_zero]), j0, j1, j2, (fun _ => rfl), (fun _ _ => rfl), (fun h _ => j5 h trivial), (fun h _ => j6 h trivial), (fun h _ => j7 h trivial), (fun h _ => j8 h trivial), j9, jb⟩
              · simp only [List.getElem?_cons_zero, List.getElem?_cons_succ, Option.some.injEq] at ho'
                subst ho'
                have hd3 : d 3 = true := List.all_eq_true.1 hw' 3 (by decide)
                obtain rfl := j3 hd3
                cases b with
                | false =>
                  simp only [putL, Act.put, List.setIfInBounds_toArray, List.set_cons_succ, List.set_cons_zero]
                  gi_wp2
                  exact ⟨rfl, [x0, x1, x2, .bool false, x4, undef, x6, x7, x8, x9], rfl, (by simp only [putL, Act.put, List.setIfInBounds_toArray, List.set_cons_succ, List.set_cons_zero]), j0, j1, j2, (fun _ => rfl), j4, (fun _ h => by cases h), j6, j7, j8, j9, jb⟩
                | true =>
                  simp only [putL, Act.put, List.setIfInBounds_toArray, List.set_cons_succ, List.set_cons_zero]
                  gi_wp2
                  exact ⟨rfl, [x0, x1, x2, .bool true, x4, _, x6, x7, x8, x9], rfl, (by simp only [putL, Act.put, List.setIfInBounds_toArray, List.set_cons_succ, List.set_cons_zero]), j0, j1, j2, (fun _ => rfl), (fun h _ => j4 h trivial), (fun _ _ => rfl), (fun h _ => j6 h trivial), (fun h _ => j7 h trivial), (fun h _ => j8 h trivial), j9, jb⟩
              · simp only [List.getElem?_cons_zero, List.getElem?_cons_succ, Option.some.injEq] at ho'
                subst ho'
                have hd3 : d 3 = true := List.all_eq_true.1 hw' 3 (by decide)
                obtain rfl := j3 hd3
                have hd4 : d 4 = true := List.all_eq_true.1 hw' 4 (by decide)
                have hd5 : d 5 = true := List.all_eq_true.1 hw' 5 (by decide)
                cases b with
                | false =>
                  simp only [putL, Act.put, List.setIfInBounds_toArray, List.set_cons_succ, List.set_cons_zero]
                  gi_wp2_with fail
                  refine ⟨trivial, ?_⟩
                  gi_wp2
                  exact ⟨rfl, [x0, x1, x2, .bool false, x4, x5, undef, x7, x8, x9], rfl, (by simp only [putL, Act.put, List.setIfInBounds_toArray, List.set_cons_succ, List.set_cons_zero]), j0, j1, j2, (fun _ => rfl), j4, j5, (fun _ h => by cases h), j7, j8, j9, jb⟩
                | true =>
                  obtain rfl := j4 hd4 rfl
                  obtain rfl := j5 hd5 rfl
                  simp only [putL, Act.put, List.setIfInBounds_toArray, List.set_cons_succ, List.set_cons_zero]
                  gi_wp2_with fail
                  refine ⟨trivial, (CallsIn.inRound l' (CWX.out _)).mono ?_⟩
                  rintro e w' ⟨rfl, hb⟩
                  have jb2 := jb.trans (hb.mono jb.size)
                  dsimp only
                  gi_wp2
                  exact ⟨rfl, [x0, x1, x2, .bool true, _, _, _, x7, x8, x9], rfl, (by simp only [putL, Act.put, List.setIfInBounds_toArray, List.set_cons_succ, List.set_cons_zero]), j0, j1, j2, (fun _ => rfl), (fun _ _ => rfl), (fun _ _ => rfl), (fun _ _ => rfl), (fun h _ => j7 h trivial), (fun h _ => j8 h trivial), j9, jb2⟩
              · simp only [List.getElem?_cons_zero, List.getElem?_cons_succ, Option.some.injEq] at ho'
                subst ho'
                have hd3 : d 3 = true := List.all_eq_true.1 hw' 3 (by decide)
                obtain rfl := j3 hd3
                cases b with
                | false =>
                  simp only [putL, Act.put, List.setIfInBounds_toArray, List.set_cons_succ, List.set_cons_zero]
                  gi_wp2
                  exact ⟨rfl, [x0, x1, x2, .bool false, x4, x5, x6, undef, x8, x9], rfl, (by simp only [putL, Act.put, List.setIfInBounds_toArray, List.set_cons_succ, List.set_cons_zero]), j0, j1, j2, (fun _ => rfl), j4, j5, j6, (fun _ h => by cases h), j8, j9, jb⟩
                | true =>
                  have hc := HJ2.out.nd.nb.cell
                  simp only [putL, Act.put, List.setIfInBounds_toArray, List.set_cons_succ, List.set_cons_zero]
                  gi_wp2
                  exact ⟨rfl, [x0, x1, x2, .bool true, x4, x5, x6, _, x8, x9], rfl, (by simp only [putL, Act.put, List.setIfInBounds_toArray, List.set_cons_succ, List.set_cons_zero]), j0, j1, j2, (fun _ => rfl), (fun h _ => j4 h trivial), (fun h _ => j5 h trivial), (fun h _ => j6 h trivial), (fun _ _ => rfl), (fun h _ => j8 h trivial), j9, jb⟩
              · simp only [List.getElem?_cons_zero, List.getElem?_cons_succ, Option.some.injEq] at ho'
                subst ho'
                have hd3 : d 3 = true := List.all_eq_true.1 hw' 3 (by decide)
                obtain rfl := j3 hd3
                have hd6 : d 6 = true := List.all_eq_true.1 hw' 6 (by decide)
                have hd7 : d 7 = true := List.all_eq_true.1 hw' 7 (by decide)
                cases b with
                | false =>
                  simp only [putL, Act.put, List.setIfInBounds_toArray, List.set_cons_succ, List.set_cons_zero]
                  gi_wp2
                  exact ⟨rfl, [x0, x1, x2, .bool false, x4, x5, x6, x7, undef, x9], rfl, (by simp only [putL, Act.put, List.setIfInBounds_toArray, List.set_cons_succ, List.set_cons_zero]), j0, j1, j2, (fun _ => rfl), j4, j5, j6, j7, (fun _ h => by cases h), j9, jb⟩
                | true =>
                  obtain rfl := j6 hd6 rfl
                  obtain rfl := j7 hd7 rfl
                  have hq := HQ.out
                  simp only [putL, Act.put, List.setIfInBounds_toArray, List.set_cons_succ, List.set_cons_zero]
                  gi_wp2
                  exact ⟨rfl, [x0, x1, x2, .bool true, x4, x5, _, _, .bool q, x9], rfl, (by simp only [putL, Act.put, List.setIfInBounds_toArray, List.set_cons_succ, List.set_cons_zero]), j0, j1, j2, (fun _ => rfl), (fun h _ => j4 h trivial), (fun h _ => j5 h trivial), (fun _ _ => rfl), (fun _ _ => rfl), (fun _ _ => rfl), j9, jb⟩
              · simp only [List.getElem?_cons_zero, List.getElem?_cons_succ, Option.some.injEq] at ho'
                subst ho'
                have hd3 : d 3 = true := List.all_eq_true.1 hw' 3 (by decide)
                obtain rfl := j3 hd3
                have hd8 : d 8 = true := List.all_eq_true.1 hw' 8 (by decide)
                cases b with
                | false =>
                  simp only [putL, Act.put, List.setIfInBounds_toArray, List.set_cons_succ, List.set_cons_zero]
                  gi_wp2
                  exact ⟨rfl, [x0, x1, x2, .bool false, x4, x5, x6, x7, x8, .bool false], rfl, (by simp only [putL, Act.put, List.setIfInBounds_toArray, List.set_cons_succ, List.set_cons_zero]), j0, j1, j2, (fun _ => rfl), j4, j5, j6, j7, j8, (fun _ => rfl), jb⟩
                | true =>
                  obtain rfl := j8 hd8 rfl
                  simp only [putL, Act.put, List.setIfInBounds_toArray, List.set_cons_succ, List.set_cons_zero]
                  gi_wp2
                  exact ⟨rfl, [x0, x1, x2, .bool true, x4, x5, x6, x7, .bool q, .bool q], rfl, (by simp only [putL, Act.put, List.setIfInBounds_toArray, List.set_cons_succ, List.set_cons_zero]), j0, j1, j2, (fun _ => rfl), (fun h _ => j4 h trivial), (fun h _ => j5 h trivial), (fun h _ => j6 h trivial), (fun h _ => j7 h trivial), (fun _ _ => rfl), (fun _ => rfl), jb⟩
          case done =>
            rintro D ys V' hD hS ⟨⟨hnd, hfam, hob, hop, hsz⟩, hnone⟩ hK
            have HA := hideT hnd
            have HO2 := hideT (hop.cons (C := vc.heap.size) (D := D) (fun E hE => by have := ODC.out E hE; have := SC.out; omega) (by have := WLT.out; have := SC.out; omega) hD hK)
            have HN2 := hideT (NXTJ.out (fun y hy => by
              have hy' : y ∈ wordsL fn := hy
              rw [← hS] at hy'
              obtain ⟨z, hz, rfl⟩ := List.mem_map.1 hy'
              exact hnone z hz))
            clear hS hnd hfam hob hop hsz hnone hK hD
            gi_wp2
            exact ⟨⟨_, _, _, _, _, _, _, _, _, _, _, _, _, _, _, _, _, _, _, _, _, _, _, _, _, _, _, _, _, _, _, _, _, j + 1, D :: Ds, rfl, by have := HJ.out; omega, HA.out, HN2.out, HO2.out⟩, meas_upS 20 j HJ.out⟩
          case stop =>
            rintro D c pre V' hD hSp ⟨p, x, rfl, rfl, hxs, hnd, hop⟩ hK
            have hx2 := last_at p x hSp
            have hv := HITJ.out p.length x.1 hx2.2 hxs
            have HO2 := hideT (hop.cons (C := vc.heap.size) (D := D) (fun E hE => by have := ODC.out E hE; have := SC.out; omega) (by have := WLT.out; have := SC.out; omega) hD hK)
            have HA := hideT hnd
            have HV : Hid (namedV s = .tuple #[.int .u16 ((fi + p.length : Nat) : Int), .int .i64 0]) := hideT (by unfold namedV; rw [hv]; rfl)
            clear hSp hxs hnd hop hK hD hx2 hv
            gi_wp2
            refine leaves_marks (B := w.heap.size + 3) (fun V'' => NdI w s ((fi + p.length : Nat) : Int) 0 V'') ?_ ?_ (D :: Ds) V' HO2.out HA.out
            · intro V'' E hE hk hA
              exact hA.kept (grownBy_putObj' V'' E (.deferred none)) (fun r e => by cases e; exact hE)
            · intro V'' hA
              have c1 := hA.rb.cell
              have c2 := hA.eb.cell
              refine ⟨.tuple #[.int .u16 ((fi + p.length : Nat) : Int), .int .i64 0], ?_, by rw [HV.out], hA.bl⟩
              simp [results, Tryd.f13, go_sem, c1, c2]
        · obtain rfl : j = 20 := by omega
          gi_wp2_with fail
          exact ⟨⟨_, _, _, _, _, _, _, _, _, _, _, _, _, _, _, _, _, _, _, _, _, _, _, _, _, _, _, _, _, _, _, _, _, _, _, i + 1, Ds, rfl, by have := HC0.out; omega, HA.out, SPN.out HNO.out, HO.out⟩, meas_upS 17 i HC0.out⟩
    · obtain rfl : i = 17 := by omega
      have cr := HA.out.rb.cell
      have zr := HA.out.rb.frozen
      have ce := HA.out.eb.cell
      have ze := HA.out.eb.frozen
      have HV : Hid (namedV s = .tuple #[.int .u16 0, .int .i64 11]) := hideT (by
        unfold namedV
        rw [namedC_none HNO.out.none]
        rfl)
      gi_wp2
      have hA := HA.out.set 0 11
      refine leaves_marks (B := w.heap.size + 3) (fun V'' => NdI w s 0 11 V'') ?_ ?_ Ds _ (HO.out.others ((KeepsOthers.setCell _ _ _).trans (KeepsOthers.setCell _ _ _))) hA
      · intro V'' E hE hk hA
        exact hA.kept (grownBy_putObj' V'' E (.deferred none)) (fun r e => by cases e; exact hE)
      · intro V'' hA
        have c1 := hA.rb.cell
        have c2 := hA.eb.cell
        refine ⟨.tuple #[.int .u16 0, .int .i64 11], ?_, by rw [HV.out], hA.bl⟩
        simp [results, Tryd.f13, go_sem, c1, c2]
end Go.Proofs.YthggbimnjneeaaaDoor
